/-
  climbs: a search by ways up, and by what lies aside; reaches.
  No conditions but sizes.
  reaches and closes: whether steps lead there; whether a ring would close.
  No conditions but sizes.
-/
import Derived.Test.YthfhefdfehlbkaaGreatSh
import Derived.Test.YthfhefdfehlbkaaGreatK19
import Derived.Test.YthfhefdfehlbkaaGreatK01
import Derived.Test.YthfhefdfehlbkaaGreatK15
import Derived.Deep.LoopGhost
set_option maxRecDepth 100000
set_option maxHeartbeats 4000000
namespace Go.Proofs.YthfhefdfehlbkaaGreat
open Go.RowKit
open Tm (Sp Tr has put cut kids)
theorem emT:AgT 147 0:=⟨⟨_,Tryz.underlying147⟩,by kernel_rfl⟩
theorem own_belowG {w w':World} {B:Nat} {E:TypeId} {k:Nat} {v:Value} {n:Nat} {xs:List Value} (h:w.ownsRow B E k v n xs) (hb:Below w.heap.size w w'):w'.ownsRow B E k v n xs:=(Turns.of_below (F:=fun _=>False) hb).own h fun _ _ h=>h
theorem own_sliceG {w:World} {B:Nat} {E:TypeId} {k:Nat} {v:Value} {n:Nat} {xs:List Value} (h:w.ownsRow B E k v n xs):∃ p c,v=.slice p n c∧(n≠0→∃ g,p=some ⟨g,0,none⟩):=by
 obtain ⟨-,⟨rfl,rfl⟩ | ⟨g,cap,cur,rfl,-⟩⟩:=h
 ·exact ⟨none,0,rfl,fun h=>absurd rfl h⟩
 ·exact ⟨_,_,rfl,fun _=>⟨g,rfl⟩⟩
theorem own_rdG {w:World} {B:Nat} {g c:Nat} {l:List Qm.St} (h:w.ownsRow B 35 2 (.slice (some ⟨g,0,none⟩) l.length c) l.length (stCells l)):Rd w (some ⟨g,0,none⟩) (stCells l):=by
 obtain ⟨p2,c2,hv,hrd,-⟩:=own_rd h
 cases hv
 exact hrd
theorem own_rdS {w:World} {B:Nat} {p:Option Addr} {n c:Nat} {xs:List Value} (h:w.ownsRow B 35 2 (.slice p n c) n xs):Rd w p xs∧(p=none→c=0):=by
 obtain ⟨p2,c2,hv,hrd,-,-,h2,-⟩:=own_rd h
 cases hv
 exact ⟨hrd,h2⟩
theorem own_capG {w:World} {B:Nat} {E:TypeId} {k:Nat} {p:Option Addr} {n c:Nat} {xs:List Value} (h:w.ownsRow B E k (.slice p n c) n xs):n≤c:=by
 obtain ⟨-,⟨h1,h2⟩ | ⟨g,cap,cur,hv,-,-,h3,-⟩⟩:=h
 ·omega
 ·cases hv; exact h3
theorem has_wfG {g:Gm.G} (h:Gm.Good g) {x:Qm.St} (hx:Gm.has g x=true):StWf x:=by
 unfold Gm.has at hx
 rw [Bool.or_eq_true] at hx
 rcases hx with hx | hx
 ·obtain ⟨s,hs⟩:=Option.isSome_iff_exists.1 hx
  exact okN_wf (h.node _ _ hs).1
 ·rcases Tm.top_iff.1 hx with hx | hx <;> rw [hx] <;> unfold StWf <;> decide
theorem has_memG {w:World} {X:Gx} {χ:Nat→Nat} {g:Gm.G} (h:Core w X χ g) {x:Qm.St} (hx:Gm.has g x=true):x ∈ (0,0) :: (0,1) :: X.T.map Prod.fst:=by
 unfold Gm.has at hx
 rw [Bool.or_eq_true] at hx
 rcases hx with hx | hx
 ·obtain ⟨s,hs⟩:=Option.isSome_iff_exists.1 hx
  rw [← h.hs] at hs
  exact List.mem_cons_of_mem _ (List.mem_cons_of_mem _ (List.mem_map.2 ⟨_,Tm.look_mem hs,rfl⟩))
 ·rcases Tm.top_iff.1 hx with hx | hx <;> rw [hx] <;> simp
structure Cl (w:World) (R:Qm.St→Qm.St→Prop) (n m:Qm.St) (M:Nat) (seen V wl Q:List Qm.St) (v:Value) (W:World):Prop where
 bel:Below w.heap.size w W
 m0:AgAt W (w.heap.size+1) (stA m)
 own:W.ownsRow (w.heap.size+2) 35 2 v wl.length (stCells wl)
 sm:SMap W M (nodesOf seen)
 ml:w.heap.size+2≤M
 ne:v.ownBlock≠some M
 s:Gm.Srch R n m seen V Q
section
variable {w W W':World} {R:Qm.St→Qm.St→Prop} {n m:Qm.St} {M x:Nat} {seen seen' V V' wl wl' Q Q':List Qm.St} {v v':Value}
theorem Cl.kept (h:Cl w R n m M seen V wl Q v W) (hb:Below W.heap.size W W'):Cl w R n m M seen V wl Q v W' :=
 ⟨h.bel.trans (hb.mono h.bel.size),h.m0.kept hb,own_belowG h.own hb,h.sm.below hb,h.ml,h.ne,h.s⟩
theorem Cl.app (h:Cl w R n m M seen V wl Q v W) {xs:List Qm.St} {p:Option Addr} {c k:Nat} (ho:W'.ownsRow (w.heap.size+2) 35 2 (.slice p k c) k (stCells wl ++ stCells xs)) (hk:k=wl.length+xs.length) (hg:W.grownBy W' v.ownBlock)
  (hne:∀ g,(Value.slice p k c).ownBlock=some g→v.ownBlock=some g∨W.heap.size≤g):Cl w R n m M seen V (wl ++ xs) Q (.slice p k c) W'∧Turns (fun j=>v.ownBlock=some j) W W':=by
 have ht:=Turns.of_grown hg
 have hv:∀ j,v.ownBlock=some j→w.heap.size+2≤j:=fun j hj=>(World.ownsRow.lt h.own j hj).1
 refine ⟨⟨h.bel.trans (ht.below (fun k _ hk=>by have:=hv k hk; omega) h.bel.size),h.m0.block (ht.block _ h.m0.lt fun e=>by have:=hv _ e; omega),?_,h.sm.turns ht h.ne,h.ml,fun e=>?_,h.s⟩,ht⟩
 ·rw [← stCells_append] at ho
  rw [List.length_append,← hk]
  exact ho
 ·rcases hne _ e with h1 | h1
  ·exact h.ne h1
  ·have:=h.sm.lt; omega
theorem Cl.with (h:Cl w R n m M seen V wl Q v W) (hs:Gm.Srch R n m seen V' Q'):Cl w R n m M seen V' wl Q' v W:=⟨h.bel,h.m0,h.own,h.sm,h.ml,h.ne,hs⟩
end
def Climbed (R:Qm.St→Qm.St→Prop) (n m:Qm.St) (w:World) (e:Ending) (w':World):Prop:=∃ b,e=.returned (.bool b)∧(b=true↔Gm.Rc R n m)∧Below w.heap.size w w'
theorem climb1_any {X:Gx} {χ:Nat→Nat} {g:Gm.G} {sb:Nat} (n m:Qm.St) (w:World) (h:Core w X χ g) (hs:AgAt w sb #[ptV X.b]) (hn:Gm.has g n=true) (hm:StWf m) :
  Calls Tryz.prog 240 #[ptV X.b,snV n,snV m,.func (.func 241) #[] #[ptV sb]] w (Climbed (Gm.UpS g) n m w):=by
 obtain ⟨R,hR⟩:∃ R,R=(Gm.UpS g):=⟨_,rfl⟩
 rw [← hR]
 have HST:=Hi (show ∀ x y,R x y↔(∃ k,g.s x=some (y,k))∨g.m x=some y from fun x y=>by rw [hR]; exact Iff.rfl)
 have HHAS:=Hi (show ∀ x y,R x y→Gm.has g y=true from fun x y hxy=>by
  rcases (HST.out x y).1 hxy with ⟨k,h1⟩ | h1
  ·exact (h.good.node _ _ h1).2.2
  ·have:=h.good.mas _ _ h1
   unfold Gm.has
   simp [this.2])
 have HAC:=Hi (show Gm.Ac R from by rw [hR]; exact h.good.up)
 clear hR
 have HWF:=Hi (show ∀ x,Gm.has g x=true→StWf x from fun x hx=>has_wfG h.good hx)
 have HDD:=Hi (show ∀ y,Gm.Rc R n y→y ∈ (0,0) :: (0,1) :: X.T.map Prod.fst from fun y hy=>has_memG h (hy.closed (V:=fun y=>Gm.has g y=true) hn fun a b _ hab=>HHAS.out a b hab))
 have HNN:=Hi (show X.T.length+2≤82 from by have:=h.len; have:=h.few; omega)
 have h1:∀ (w:World) (o:Obj),Below w.heap.size w (w.alloc o):=fun w o=>(Below.refl _ _).alloc (Nat.le_refl _) _
 have HC:=Hi h
 have HSB:=Hi hs
 have HWN:=Hi (HWF.out n hn)
 have HHN:=Hi hn
 have HWM:=Hi hm
 have HN0:=Hi (show AgAt ((w.alloc (.cells (stA n) 35)).alloc (.cells (stA m) 35)) w.heap.size (stA n) from (AgAt.new w (stA n) 35).kept (h1 _ _))
 have I0:=Hi (show Cl w R n m (w.heap.size+1+1+1) [] [] [n] [n] (.slice (some ⟨w.heap.size+1+1,0,none⟩) 1 1) ((((w.alloc (.cells (stA n) 35)).alloc (.cells (stA m) 35)).alloc (.cells (stA n) 35)).alloc (.map #[] 0)) from by
  have k3:=own_stG ((w.alloc (.cells (stA n) 35)).alloc (.cells (stA m) 35)) n (w.heap.size+2) (by simp)
  have k4:=SMap.made (((w.alloc (.cells (stA n) 35)).alloc (.cells (stA m) 35)).alloc (.cells (stA n) 35))
  have k2:=AgAt.new (w.alloc (.cells (stA n) 35)) (stA m) 35
  simp only [World.size_alloc] at k2 k3 k4
  refine ⟨?_,(k2.kept (h1 _ _)).kept (h1 _ _),own_belowG k3 (h1 _ _),k4,by omega,by simp [Value.ownBlock],Gm.Srch.init _ _ _⟩
  exact (h1 _ _).trans (((h1 _ _).mono (by simp)).trans (((h1 _ _).mono (by simp; omega)).trans ((h1 _ _).mono (by simp; omega)))))
 clear h hs hn hm h1
 have hmm:=@run_makeMap Tryz.prog
 go_enter Tryz.func240,Tryz.ntmps240
 go_wp2_with (first | (refine wpList_load_ag stT (by kernel_rfl) _ rfl _ rfl (A:=stA n) rfl HN0.out ?_) | (refine wpList_buildG rfl _ rfl n rfl ?_))
 go_step3
 go_wp2_with fail
 go_step3
 go_wp2_with fail
 generalize (((w.alloc (.cells (stA n) 35)).alloc (.cells (stA m) 35)).alloc (.cells (stA n) 35)).alloc (.map #[] 0)=w4 at *
 generalize w.heap.size+1+1+1=M at *
 clear hmm HN0
 go_loopg [9] 6800 (fun gk v wr=>∃ seen V wl,Cl w R n m M seen V wl wl v wr∧(X.T.length+3 - V.length) * 81+wl.length<gk∧gk≤6800∧V.length≤X.T.length+2)
 case atStart=>exact ⟨[],[],[n],I0.out,by have:=HNN.out; simp; omega,Nat.le_refl _,Nat.zero_le _⟩
 case round =>
  clear I0
  obtain ⟨seen,V,wl,hI,hlt,hle,hV⟩:=hrel
  obtain ⟨g0,rfl⟩:∃ g0,gk=g0+1:=⟨gk - 1,by omega⟩
  have HI:=Hi hI
  have HLT:=Hi (And.intro hlt (And.intro hle hV))
  clear hI hlt hle hV
  rcases List.eq_nil_or_concat wl with hw | ⟨init,x,hw⟩
  ·subst hw
   obtain ⟨p,c,rfl,hp0⟩:=own_sliceG HI.out.own
   have HE:=Hi (show Climbed R n m w (.returned (.bool false)) wr from ⟨false,rfl,⟨fun h=>(by cases h),fun h=>absurd h HI.out.s.over⟩,HI.out.bel⟩)
   clear HI
   simp only [List.length_nil]
   go_wp2
   try rw [Exit.noGoto_ret]
   go_ret
   exact HE.out
  ·rw [List.concat_eq_append] at hw
   subst hw
   obtain ⟨p,c,rfl,hp0⟩:=own_sliceG HI.out.own
   obtain ⟨gb,rfl⟩:=hp0 (by simp)
   clear hp0
   have HRD:=Hi (own_rdG HI.out.own)
   have HXI:=Hi (show Qm.stOf (init ++ [x]) init.length=x from by rw [stOf_getG (by simp)]; simp)
   have HIL:=Hi (show init.length<(init ++ [x]).length from by simp)
   obtain ⟨k,hk⟩:∃ k,k=init.length:=⟨_,rfl⟩
   have HK:=Hi hk
   have hk4:k≤6900:=by have:=HLT.out; simp at this; omega
   rw [← hk] at HXI HIL
   have hlen:((init ++ [x]).length:Int)=(k:Int)+1:=by rw [hk]; simp
   have hw1:IntKind.i64.wrap ((k:Int)+1 - 1)=(k:Int):=by rw [wraps_i64 _ (by omega) (by omega)]; omega
   have hk1:((init ++ [x]).length)=k+1:=by rw [hk]; simp
   rw [hk1]
   have hkc:k≤c:=by have:=own_capG HI.out.own; omega
   have hgl:=(World.ownsRow.lt HI.out.own gb rfl)
   clear hk
   go_wp2_with (first | (refine wpList_value (by kernel_rfl) (stK.take rfl rfl rfl hkc) ?_) | (refine wpList_load_stG rfl _ rfl gb 0 k (by rw [Nat.zero_add]; rfl) _ HRD.out HIL.out ?_; rw [HXI.out]) | (refine wpList_store_newag stT rfl _ _ rfl rfl _ (A:=stA x) rfl rfl rfl (stA_one _ _) ?_; intro w5 hv5 hb5))
   have I1:=Hi (show Cl w R n m M seen V init (x :: init) (.slice (some ⟨gb,0,none⟩) k c) w5 from by
    have h1:=HI.out.kept hb5
    refine ⟨h1.bel,h1.m0,?_,h1.sm,h1.ml,?_,h1.s.perm fun y=>by simp [or_comm]⟩
    ·have h2:=own_takeG (m:=k) h1.own (by rw [hk1]; omega) (by simp)
     rw [stCells_takeG,show (init ++ [x]).take k=init from by rw [HK.out]; simp] at h2
     rw [← HK.out]
     exact h2
    ·exact h1.ne)
   have HAT:=Hi hv5
   have HBA:=Hi (show w.heap.size+2≤wr.heap.size∧wr.heap.size≠M∧gb≠wr.heap.size from ⟨by have:=hgl.1; have:=hgl.2; omega,fun e=>by have:=HI.out.sm.lt; omega,by have:=hgl.2; omega⟩)
   have HL2:=Hi (show (X.T.length+3 - V.length) * 81+init.length<g0 from by have:=HLT.out.1; rw [hk1,HK.out] at this; omega)
   have HLE:=Hi (And.intro HLT.out.2.1 HLT.out.2.2)
   clear HI HLT HRD HXI HIL hlen hw1 hk1 hv5 hb5 hgl hk4 hkc
   generalize wr.heap.size=Ba at *
   have hk:=HK.out
   clear HK
   subst hk
   go_loopg [9,12] (X.T.length+4) (fun gk v tv wy=>∃ seen V wl xb at_,tv=.bool xb∧Cl w R n m M seen V wl (if xb=true then at_ :: wl else wl) v wy∧AgAt wy Ba (stA at_)∧v.ownBlock≠some Ba∧(X.T.length+3 - V.length) * 81+wl.length<g0∧V.length≤X.T.length+2∧X.T.length+3 - V.length<gk)
   case atStart=>exact ⟨seen,V,init,true,x,rfl,I1.out,HAT.out,by simp only [Value.ownBlock]; intro e; exact HBA.out.2.2 (Option.some.inj e),HL2.out,HLE.out.2,by omega⟩
   case round =>
    clear I1 HAT HL2
    obtain ⟨seen2,V2,wl,xb,at2,rfl,hI,hat,hne,hl1,hl2,hl3⟩:=hrel
    have HI:=Hi hI
    have HAT:=Hi hat
    have HNE:=Hi hne
    have HL:=Hi (And.intro hl1 (And.intro hl2 hl3))
    obtain ⟨g1,rfl⟩:∃ g1,gk=g1+1:=⟨gk - 1,by omega⟩
    clear hI hat hne hl1 hl2 hl3
    cases xb with
    | false =>
     go_wp2_with fail
     go_roundg g0
     case rel=>exact ⟨seen2,V2,wl,HI.out,HL.out.1,by have:=HLE.out.1; omega,HL.out.2.1⟩
     case measure=>omega
    | true =>
     have HM:=Hi (show decide (at2=m)=decide (at2=m) from rfl)
     by_cases hm:at2=m
     ·have HQ:=Hi (show decide (at2=m)=true from decide_eq_true hm)
      have HE:=Hi (show Climbed R n m w (.returned (.bool true)) wr from ⟨true,rfl,⟨fun _=>by subst hm; exact HI.out.s.found,fun _=>rfl⟩,HI.out.bel⟩)
      clear hm
      go_wp2_with (first | (refine wpList_load_ag stT (by kernel_rfl) _ rfl _ rfl (A:=stA at2) rfl HAT.out ?_) | (refine wpList_load_ag stT (by kernel_rfl) _ rfl _ rfl (A:=stA m) rfl HI.out.m0 ?_) | (refine wpList_value (by kernel_rfl) (exec_eql_st rfl at2 m rfl rfl) ?_; rw [HQ.out]))
      try rw [Exit.noGoto_ret]
      go_ret
      exact HE.out
     ·have HQ:=Hi (show decide (at2=m)=false from decide_eq_false hm)
      have HNM:=Hi hm
      have HWA:=Hi (show StWf at2 from by
       have h1:=HI.out.s.come at2 (Or.inr (by simp))
       exact HWF.out _ (h1.closed (V:=fun y=>Gm.has g y=true) HHN.out fun a b _ hab=>HHAS.out a b hab))
      obtain ⟨sb2,hsb2⟩:∃ b,b=decide (at2 ∈ seen2):=⟨_,rfl⟩
      have HSE:=Hi hsb2
      have HLK:=Hi (show (Instr.lookup 242 (.map (some M)) (snV at2) true).run Tryz.prog wr=.ok (.tuple #[.agg #[],.bool sb2]) wr from by
       rw [HI.out.sm.lookOk mtSet at2 HWA.out,lk_nodes,hsb2]
       by_cases h:at2 ∈ seen2
       ·rw [if_pos h,decide_eq_true h]; rfl
       ·rw [if_neg h,decide_eq_false h]; rfl)
      clear hm hsb2
      go_upto_region 9 with (first | (refine wpList_load_ag stT (by kernel_rfl) _ rfl _ rfl (A:=stA at2) rfl HAT.out ?_) | (refine wpList_load_ag stT (by kernel_rfl) _ rfl _ rfl (A:=stA m) rfl HI.out.m0 ?_) | (refine wpList_value (by kernel_rfl) (exec_eql_st rfl at2 m rfl rfl) ?_; rw [HQ.out]) | (refine wpList_value (by kernel_rfl) (exec_lookup rfl rfl rfl HLK.out) ?_) | (refine wpList_store_newag emT rfl _ _ rfl rfl _ (A:=#[]) rfl rfl rfl (by simp) ?_; intro w6 hv6 hb6))
      have HV6B:=Hi (Below.size hb6)
      replace HAT:=Hi (AgAt.kept HAT.out hb6)
      replace HI:=Hi (HI.out.kept hb6)
      clear hv6 hb6 HLK HQ
      cases sb2 with
      | true =>
       have HSK:=Hi (HI.out.s.skip (of_decide_eq_true HSE.out.symm))
       go_wp2_with fail
       go_roundg g0
       case rel=>exact ⟨seen2,V2,wl,HI.out.with HSK.out,HL.out.1,by have:=HLE.out.1; omega,HL.out.2.1⟩
       case measure=>omega
      | false =>
       have HNS:=Hi (of_decide_eq_false HSE.out.symm)
       have HAS:=Hi (aside1_any at2 w6 (HC.out.kept HI.out.bel) (AgAt.kept HSB.out HI.out.bel) HWA.out)
       have hw4:wl.length≤6900:=by have:=HL.out.1; have:=HLE.out.1; omega
       obtain ⟨pw,cw,hu,-⟩:=own_sliceG HI.out.own
       subst hu
       obtain ⟨i0,hi0,hz00,hz1,hz22⟩:=info_parts oinfo_st
       go_upto_region 11 with (first | (refine wpList_load_ag stT (by kernel_rfl) _ rfl _ rfl (A:=stA at2) rfl HAT.out ?_) | (go_at_call 241; refine HAS.out.mono ?_; rintro e w7 ⟨v7,xs,hxs,hx60,rfl,hov,hb7⟩; obtain ⟨p7,c7,rfl,-⟩:=own_sliceG hov; have HRX:=own_rdS hov; have HI7:=HI.out.kept hb7; have HAT7:=AgAt.kept HAT.out hb7; have HB7:=hb7; have HXS:=hxs; have HX6:=hx60) | (at_builtin; refine wpList_append_k rfl _ _ 36 rfl (w.heap.size+2) 35 i0 _ 2 16 Tryz.underlying36 hi0 hz00 hz1 (by decide) hz22 (by decide) rfl _ wl.length (stCells wl) rfl HI7.own p7 xs.length c7 (stCells xs) rfl (stCells_length xs) HRX.1 HRX.2 stCells_one (by omega) (by have:=HI7.bel.size; have:=HI7.ml; have:=HI7.sm.lt; omega) ?_; intro p8 c8 w8 ho8 hg8 hne8))
       obtain ⟨I8,ht8⟩:=HI7.app ho8 rfl hg8 hne8
       have HT8:=Hi ht8
       have I8:=Hi I8
       have HAT8:=Hi (AgAt.block HAT7 (ht8.block _ (AgAt.lt HAT7) HNE.out))
       have HNB8:=Hi (show (Value.slice p8 (wl.length+xs.length) c8).ownBlock≠some Ba from fun e=>by
        rcases hne8 _ e with h1 | h1
        ·exact HNE.out h1
        ·have:=AgAt.lt HAT7; omega)
       have HXS:=Hi HXS
       have HX6:=Hi HX6
       clear HI7 HAT7 hov HB7 ho8 hg8 hne8 HRX HT8 HNE HI HAT HAS ht8 hb7 hxs hx60 hw4
       obtain ⟨k8,hk8⟩:∃ k,k=wl.length+xs.length:=⟨_,rfl⟩
       rw [← hk8] at I8 HNB8 ⊢
       have HK8:=Hi hk8
       obtain ⟨mb,hmb⟩:∃ b,b=decide (wl ++ xs ≠ []∨seen2 ≠ []):=⟨_,rfl⟩
       have HMB:=Hi hmb
       have HLN:=Hi (show (Builtin.len_ #[242] 3 #[.map (some M)]).run Tryz.prog w8=.ok (.int .i64 (seen2.length:Int)) w8 from by
        have h1:=I8.out.sm.len mtSet 3
        unfold nodesOf at h1
        rw [List.length_map] at h1
        exact h1)
       clear hmb hk8
       go_cut [9,56] (fun s9 s56 wx=>s9=.slice p8 k8 c8∧s56=.bool mb∧wx=w8)
       case first =>
        by_cases hw:wl ++ xs=[]
        ·have hz:k8=0:=by rw [HK8.out,← List.length_append,hw]; rfl
         have HZ:=Hi hz
         have d0:decide (0<k8)=false:=decide_eq_false (by omega)
         have hln:=HLN.out
         by_cases hs:seen2=[]
         ·have HV:=Hi (show mb=false from by rw [HMB.out,decide_eq_false]; simp [hw,hs])
          have D1:=Hi (show decide (0<seen2.length)=false from decide_eq_false (by rw [hs]; decide))
          clear hw hs hz
          go_wp2
          go_meet
          case rel=>exact ⟨by rw [HZ.out],by rw [HV.out,D1.out],rfl⟩
         ·have HV:=Hi (show mb=true from by rw [HMB.out,decide_eq_true]; exact Or.inr hs)
          have D1:=Hi (show decide (0<seen2.length)=true from decide_eq_true (by have:=List.length_pos_iff.2 hs; omega))
          clear hw hs hz
          go_wp2
          go_meet
          case rel=>exact ⟨by rw [HZ.out],by rw [HV.out,D1.out],rfl⟩
        ·have HV:=Hi (show mb=true from by rw [HMB.out,decide_eq_true]; exact Or.inl hw)
         have d0:decide (0<k8)=true:=decide_eq_true (by have:=HK8.out; have h1:=List.length_pos_iff.2 hw; rw [List.length_append] at h1; omega)
         clear hw
         go_wp2
         go_meet
         case rel=>exact ⟨rfl,by rw [HV.out],rfl⟩
       case rest =>
        rename World=>w9
        obtain ⟨rfl,rfl,rfl⟩:=hcut
        clear HLN
        go_upto_if 56 with fail
        go_cut [] (fun wx=>∃ seen',SMap wx M (nodesOf seen')∧(∀ y ∈ seen',y=at2∨y ∈ seen2)∧(∀ y ∈ seen2,y ∈ seen')∧(at2 ∈ seen'∨wl ++ xs=[])∧Turns (fun k=>k=M) w9 wx)
        case first =>
         cases mb with
         | false =>
          have HE:=Hi (show wl ++ xs=[] from by
           have h1:=of_decide_eq_false HMB.out.symm
           cases h:wl ++ xs with
           | nil=>rfl
           | cons a l=>exact absurd (Or.inl (by rw [h]; simp)) h1)
          go_wp2_with fail
          go_meet
          case rel=>exact ⟨seen2,I8.out.sm,fun y hy=>Or.inr hy,fun y hy=>hy,Or.inr HE.out,Turns.refl _ _⟩
         | true =>
          obtain ⟨wu,hrun,hmu,htu,hzu⟩:=I8.out.sm.upd mtSet at2 (.agg #[]) HWA.out (by rw [lk_nodes,if_neg HNS.out])
          have HU:=Hi (And.intro hmu htu)
          clear hmu htu hzu
          go_wp2_with (first | (refine wpList_load_ag stT (by kernel_rfl) _ rfl _ rfl (A:=stA at2) rfl HAT8.out ?_) | (refine wpList_updG rfl _ _ _ _ rfl rfl rfl rfl hrun ?_))
          go_meet
          case rel=>exact ⟨seen2 ++ [at2],by unfold nodesOf; rw [List.map_append]; exact HU.out.1,fun y hy=>by rcases List.mem_append.1 hy with h | h; exact Or.inr h; exact Or.inl (List.mem_singleton.1 h),fun y hy=>List.mem_append_left _ hy,Or.inl (by simp),HU.out.2⟩
        case rest =>
         rename World=>w10
         obtain ⟨seen3,hs1,hs2,hs3,hs4,ht10⟩:=hcut
         have I9:=Hi (show Cl w R n m M seen2 V2 (wl ++ xs) (at2 :: wl) (.slice p8 k8 c8) w9∧SMap w10 M (nodesOf seen3)∧Turns (fun k=>k=M) w9 w10 from ⟨I8.out,hs1,ht10⟩)
         have HS3:=Hi (And.intro hs2 (And.intro hs3 hs4))
         have HAT9:=Hi (AgAt.block HAT8.out (ht10.block _ (AgAt.lt HAT8.out) HBA.out.2.1))
         have HBL:=Hi (show Below w.heap.size w w10 from I8.out.bel.trans (ht10.below (fun k _ hk=>by have:=I8.out.ml; omega) I8.out.bel.size))
         clear hs1 hs2 hs3 hs4 ht10 I8 HAT8
         go_upto_region 14 with fail
         have hba:=(Below.refl w10.heap.size w10).alloc (Nat.le_refl _) (.cells #[.int .i64 0,.int .i64 0,.string ⟨#[]⟩] 106)
         have hbd:=Below.drew (Below.refl (w10.alloc (.cells #[.int .i64 0,.int .i64 0,.string ⟨#[]⟩] 106)).heap.size (w10.alloc (.cells #[.int .i64 0,.int .i64 0,.string ⟨#[]⟩] 106)))
         have hbx:=hba.trans (hbd.mono hba.size)
         have HSP:=Hi ((AgAt.new w10 #[.int .i64 0,.int .i64 0,.string ⟨#[]⟩] 106).kept hbd)
         have HBD:=Hi (HBL.out.trans (hbx.mono HBL.out.size))
         have HCD:=Hi (HC.out.kept HBD.out)
         have HCB:=Hi (show ∀ k,χ k≠0→¬ k=w10.heap.size from fun k hk e=>by have:=HC.out.lt k hk; have:=HBL.out.size; omega)
         have HBB:=Hi (show Ba≠w10.heap.size∧M≠w10.heap.size∧w9.heap.size≤w10.heap.size from ⟨fun e=>by have:=AgAt.lt HAT9.out; omega,fun e=>by have:=I9.out.2.1.lt; omega,I9.out.2.2.size⟩)
         have HAT:=Hi (AgAt.kept HAT9.out hbx)
         have HTM:=Hi (I9.out.2.2.trans (Turns.of_below hbx))
         have HSM:=Hi (I9.out.2.1.below hbx)
         have HM0:=Hi (AgAt.kept (I9.out.1.m0.block (I9.out.2.2.block _ I9.out.1.m0.lt (by have:=I9.out.1.ml; omega))) hbx)
         clear hba hbd hbx HAT9
         refine wp_region_held_drew (S:=fun W=>Turns (fun k=>k=w10.heap.size) (w10.alloc (.cells #[.int .i64 0,.int .i64 0,.string ⟨#[]⟩] 106)).drew W) (by kernel_rfl) (Turns.refl _ _) (fun hS=>?_)
         generalize (w10.alloc (.cells #[.int .i64 0,.int .i64 0,.string ⟨#[]⟩] 106)).drew=wd at *
         generalize w10.heap.size=bs at *
         obtain ⟨ib,hib⟩:∃ b,b=(Tm.look X.T at2).isSome:=⟨_,rfl⟩
         obtain ⟨va,hva⟩:∃ s,s=(Tm.look X.T at2).getD zS:=⟨_,rfl⟩
         have HSPOT:=Hi (fun (W:World) (hc:Core W X χ g)=>show Calls Tryz.prog 155 #[.pointer (some ⟨X.P,0,none⟩),snV at2] W fun e w'=>e=.returned (.tuple #[.agg (spA va),.bool ib])∧Below W.heap.size W w' from by
          rw [hib,hva]; exact spot_any at2 W hc.tree HWA.out)
         have HIV:=Hi (show (ib=true→g.s at2=some va)∧(ib=false→g.s at2=none) from by
          rw [hib,hva,← HC.out.hs]
          cases Tm.look X.T at2 with
          | none=>exact ⟨fun h=>(by cases h),fun _=>rfl⟩
          | some s=>exact ⟨fun _=>rfl,fun h=>(by cases h)⟩)
         clear hib hva
         refine tX 0 rfl hS ?_
         refine tX 1 rfl hS ?_
         refine tX 2 rfl hS ?_
         refine tK 3 (v:=?_) rfl ?_ hS ?_
         rotate_left
         ·intro W hSW
          have y:W.cell? ⟨X.b,4,none⟩=some (ptV X.P):=(HCD.out.turns hSW HCB.out).cP
          go_simp
          all_goals with_reducible rfl
         go_simp
         refine tK 4 (v:=snV at2) rfl (fun W hSW=>exec_load_ag stT rfl rfl rfl (AgAt.block HAT.out (hSW.block _ (AgAt.lt HAT.out) HBB.out.1))) hS ?_
         go_simp
         refine rD 5 rfl (fun K hK=>?_)
         go_simp
         go_wp2_with (go_at_call 155; refine (HSPOT.out _ HCD.out).mono ?_; rintro e wn ⟨rfl,hbn⟩)
         have HSP1:=Hi (AgAt.kept HSP.out hbn)
         have HTN:=Hi (hS.trans (Turns.of_below hbn))
         refine hK.out _ _ HTN.out (fun hS=>?_)
         clear hK K hbn
         refine tX 6 rfl hS ?_
         refine tX 7 rfl hS ?_
         refine tX 8 rfl hS ?_
         go_simp
         refine rD 9 rfl (fun K hK=>?_)
         refine step_of (by kernel_rfl) ?_
         refine wp_store_ag spT _ _ rfl bs rfl _ HSP1.out (A:=spA va) rfl rfl rfl (spA_one _) ?_
         intro w12 hv12 hko12 hsz12 hbn12
         have ht12:=stored_turns hko12 hsz12 hbn12
         have HV12:=Hi hv12
         refine hK.out _ _ (HTN.out.trans (ht12.mono fun k _ hk=>Or.inl hk)) (fun hS=>?_)
         clear hK K hv12 hko12 hsz12 hbn12 ht12 HSP1 HTN
         refine tX 10 rfl hS ?_
         go_simp
         refine wpAnyH_done (by kernel_rfl) ?_ _
         go_simp
         replace HAT:=Hi (AgAt.block HAT.out (hS.block _ (AgAt.lt HAT.out) HBB.out.1))
         replace HSM:=Hi (HSM.out.turns hS HBB.out.2.1)
         replace HM0:=Hi (AgAt.block HM0.out (hS.block _ (AgAt.lt HM0.out) (by have:=I9.out.1.m0.lt; have:=HBB.out.2.2; omega)))
         replace HTM:=Hi (HTM.out.trans (hS.mono fun k _ hk=>Or.inr (by have:=HBB.out.2.2; omega)))
         clear hS HSP HSPOT HCD HBD HBL
         go_wp2_with (first | (refine wpList_load_part stT rfl _ rfl _ 0 rfl [.int .i64 va.1.1,.int .i64 va.1.2] rfl HV12.out spPar ?_) | (refine wpList_store_ag stT rfl _ _ rfl Ba rfl _ HAT.out (A:=stA va.1) rfl rfl rfl (stA_one _ _) ?_; intro w13 hv13 hko13 hsz13 hbn13))
         have ht13:=stored_turns hko13 hsz13 hbn13
         have HSR:=Hi (show Gm.Srch R n m seen3 (at2 :: V2) (if ib=true then va.1 :: (wl ++ xs) else wl ++ xs) from by
          have hin:∀ y,y ∈ (if ib=true then va.1 :: (wl ++ xs) else wl ++ xs)↔y ∈ wl ++ xs∨(ib=true∧y=va.1):=fun y=>by
           cases ib with
           | false=>simp
           | true=>rw [if_pos rfl,List.mem_cons]; simp [or_comm]
          have hpar:ib=true→R at2 va.1:=fun h=>(HST.out _ _).2 (Or.inl ⟨va.2,HIV.out.1 h⟩)
          refine I9.out.1.s.expand HAC.out HNS.out HNM.out (fun y hy=>?_) (fun y hy=>(hin y).2 (Or.inl (List.mem_append_left _ hy))) (fun y hy=>?_) HS3.out.1 HS3.out.2.1 (HS3.out.2.2.imp id fun he y hy=>?_)
          ·rcases (hin y).1 hy with h1 | ⟨h1,rfl⟩
           ·rcases List.mem_append.1 h1 with h1 | h1
            ·exact Or.inl h1
            ·exact Or.inr ((HST.out _ _).2 (Or.inr ((HXS.out y).1 h1)))
           ·exact Or.inr (hpar h1)
          ·rcases (HST.out _ _).1 hy with ⟨k,h1⟩ | h1
           ·cases hb:ib with
            | false=>rw [HIV.out.2 hb] at h1; cases h1
            | true =>
             have h2:=HIV.out.1 hb
             rw [h1] at h2
             have h3:=(hin y).2 (Or.inr ⟨hb,(congrArg Prod.fst (Option.some.inj h2))⟩)
             rw [hb] at h3
             exact h3
           ·exact (hin y).2 (Or.inl (List.mem_append_right _ ((HXS.out y).2 h1)))
          ·rcases (hin y).1 hy with h1 | ⟨h1,rfl⟩
           ·rw [he] at h1; cases h1
           ·exact hpar h1)
         have HVL:=Hi (show V2.length+1≤X.T.length+2 from by have:=I9.out.1.s.lt HNS.out HDD.out; simpa using this)
         have HT13:=Hi ((HTM.out.mono (G:=fun k=>k=M∨k=Ba) fun k _ hk=>Or.inl hk).trans (ht13.mono fun k _ hk=>Or.inl (Or.inr hk)))
         have HCL:=Hi (show Cl w R n m M seen3 (at2 :: V2) (wl ++ xs) (if ib=true then va.1 :: (wl ++ xs) else wl ++ xs) (.slice p8 k8 c8) w13 from by
          have C0:=I9.out.1
          have hMl:=C0.ml
          have hBa:=HBA.out
          refine ⟨C0.bel.trans (HT13.out.below (fun k _ hk=>by omega) C0.bel.size),AgAt.block HM0.out (ht13.block _ (AgAt.lt HM0.out) (by omega)),HT13.out.own C0.own fun k hk e=>?_,HSM.out.turns ht13 (by omega),hMl,C0.ne,HSR.out⟩
          rcases e with e | e
          ·exact C0.ne (by rw [hk,e])
          ·exact HNB8.out (by rw [hk,e]))
         have HLN:=Hi (show (X.T.length+3 - (at2 :: V2).length) * 81+(wl ++ xs).length<g0∧(at2 :: V2).length≤X.T.length+2∧X.T.length+3 - (at2 :: V2).length<g1 from by
          have h1:=HL.out
          have h2:=HVL.out
          have h3:=HX6.out
          rw [List.length_cons,List.length_append]
          omega)
         have HV13:=Hi hv13
         clear hv13 hko13 hsz13 hbn13 ht13 HSR HIV HSM HM0 HTM HAT
         go_roundg g1
         case rel=>exact ⟨seen3,at2 :: V2,wl ++ xs,ib,va.1,rfl,HCL.out,HV13.out,HNB8.out,HLN.out.1,HLN.out.2.1,HLN.out.2.2⟩
         case measure=>omega
theorem climb2_any {X:Gx} {χ:Nat→Nat} {g:Gm.G} {sb:Nat} (n m:Qm.St) (w:World) (h:Core w X χ g) (hs:AgAt w sb #[ptV X.b]) (hn:Gm.has g n=true) (hm:StWf m) :
  Calls Tryz.prog 240 #[ptV X.b,snV n,snV m,.func (.func 242) #[] #[ptV sb]] w (Climbed (fun x y=>Gm.DnS g y x) n m w):=by
 obtain ⟨R,hR⟩:∃ R,R=(fun x y=>Gm.DnS g y x):=⟨_,rfl⟩
 rw [← hR]
 have HST:=Hi (show ∀ x y,R x y↔(∃ k,g.s x=some (y,k))∨g.m y=some x from fun x y=>by rw [hR]; exact Iff.rfl)
 have HHAS:=Hi (show ∀ x y,R x y→Gm.has g y=true from fun x y hxy=>by
  rcases (HST.out x y).1 hxy with ⟨k,h1⟩ | h1
  ·exact (h.good.node _ _ h1).2.2
  ·have:=h.good.mas _ _ h1
   unfold Gm.has
   simp [this.1])
 have HAC:=Hi (show Gm.Ac R from by rw [hR]; exact h.good.dn.flip)
 clear hR
 have HWF:=Hi (show ∀ x,Gm.has g x=true→StWf x from fun x hx=>has_wfG h.good hx)
 have HDD:=Hi (show ∀ y,Gm.Rc R n y→y ∈ (0,0) :: (0,1) :: X.T.map Prod.fst from fun y hy=>has_memG h (hy.closed (V:=fun y=>Gm.has g y=true) hn fun a b _ hab=>HHAS.out a b hab))
 have HNN:=Hi (show X.T.length+2≤82 from by have:=h.len; have:=h.few; omega)
 have h1:∀ (w:World) (o:Obj),Below w.heap.size w (w.alloc o):=fun w o=>(Below.refl _ _).alloc (Nat.le_refl _) _
 have HC:=Hi h
 have HSB:=Hi hs
 have HWN:=Hi (HWF.out n hn)
 have HHN:=Hi hn
 have HWM:=Hi hm
 have HN0:=Hi (show AgAt ((w.alloc (.cells (stA n) 35)).alloc (.cells (stA m) 35)) w.heap.size (stA n) from (AgAt.new w (stA n) 35).kept (h1 _ _))
 have I0:=Hi (show Cl w R n m (w.heap.size+1+1+1) [] [] [n] [n] (.slice (some ⟨w.heap.size+1+1,0,none⟩) 1 1) ((((w.alloc (.cells (stA n) 35)).alloc (.cells (stA m) 35)).alloc (.cells (stA n) 35)).alloc (.map #[] 0)) from by
  have k3:=own_stG ((w.alloc (.cells (stA n) 35)).alloc (.cells (stA m) 35)) n (w.heap.size+2) (by simp)
  have k4:=SMap.made (((w.alloc (.cells (stA n) 35)).alloc (.cells (stA m) 35)).alloc (.cells (stA n) 35))
  have k2:=AgAt.new (w.alloc (.cells (stA n) 35)) (stA m) 35
  simp only [World.size_alloc] at k2 k3 k4
  refine ⟨?_,(k2.kept (h1 _ _)).kept (h1 _ _),own_belowG k3 (h1 _ _),k4,by omega,by simp [Value.ownBlock],Gm.Srch.init _ _ _⟩
  exact (h1 _ _).trans (((h1 _ _).mono (by simp)).trans (((h1 _ _).mono (by simp; omega)).trans ((h1 _ _).mono (by simp; omega)))))
 clear h hs hn hm h1
 have hmm:=@run_makeMap Tryz.prog
 go_enter Tryz.func240,Tryz.ntmps240
 go_wp2_with (first | (refine wpList_load_ag stT (by kernel_rfl) _ rfl _ rfl (A:=stA n) rfl HN0.out ?_) | (refine wpList_buildG rfl _ rfl n rfl ?_))
 go_step3
 go_wp2_with fail
 go_step3
 go_wp2_with fail
 generalize (((w.alloc (.cells (stA n) 35)).alloc (.cells (stA m) 35)).alloc (.cells (stA n) 35)).alloc (.map #[] 0)=w4 at *
 generalize w.heap.size+1+1+1=M at *
 clear hmm HN0
 go_loopg [9] 6800 (fun gk v wr=>∃ seen V wl,Cl w R n m M seen V wl wl v wr∧(X.T.length+3 - V.length) * 81+wl.length<gk∧gk≤6800∧V.length≤X.T.length+2)
 case atStart=>exact ⟨[],[],[n],I0.out,by have:=HNN.out; simp; omega,Nat.le_refl _,Nat.zero_le _⟩
 case round =>
  clear I0
  obtain ⟨seen,V,wl,hI,hlt,hle,hV⟩:=hrel
  obtain ⟨g0,rfl⟩:∃ g0,gk=g0+1:=⟨gk - 1,by omega⟩
  have HI:=Hi hI
  have HLT:=Hi (And.intro hlt (And.intro hle hV))
  clear hI hlt hle hV
  rcases List.eq_nil_or_concat wl with hw | ⟨init,x,hw⟩
  ·subst hw
   obtain ⟨p,c,rfl,hp0⟩:=own_sliceG HI.out.own
   have HE:=Hi (show Climbed R n m w (.returned (.bool false)) wr from ⟨false,rfl,⟨fun h=>(by cases h),fun h=>absurd h HI.out.s.over⟩,HI.out.bel⟩)
   clear HI
   simp only [List.length_nil]
   go_wp2
   try rw [Exit.noGoto_ret]
   go_ret
   exact HE.out
  ·rw [List.concat_eq_append] at hw
   subst hw
   obtain ⟨p,c,rfl,hp0⟩:=own_sliceG HI.out.own
   obtain ⟨gb,rfl⟩:=hp0 (by simp)
   clear hp0
   have HRD:=Hi (own_rdG HI.out.own)
   have HXI:=Hi (show Qm.stOf (init ++ [x]) init.length=x from by rw [stOf_getG (by simp)]; simp)
   have HIL:=Hi (show init.length<(init ++ [x]).length from by simp)
   obtain ⟨k,hk⟩:∃ k,k=init.length:=⟨_,rfl⟩
   have HK:=Hi hk
   have hk4:k≤6900:=by have:=HLT.out; simp at this; omega
   rw [← hk] at HXI HIL
   have hlen:((init ++ [x]).length:Int)=(k:Int)+1:=by rw [hk]; simp
   have hw1:IntKind.i64.wrap ((k:Int)+1 - 1)=(k:Int):=by rw [wraps_i64 _ (by omega) (by omega)]; omega
   have hk1:((init ++ [x]).length)=k+1:=by rw [hk]; simp
   rw [hk1]
   have hkc:k≤c:=by have:=own_capG HI.out.own; omega
   have hgl:=(World.ownsRow.lt HI.out.own gb rfl)
   clear hk
   go_wp2_with (first | (refine wpList_value (by kernel_rfl) (stK.take rfl rfl rfl hkc) ?_) | (refine wpList_load_stG rfl _ rfl gb 0 k (by rw [Nat.zero_add]; rfl) _ HRD.out HIL.out ?_; rw [HXI.out]) | (refine wpList_store_newag stT rfl _ _ rfl rfl _ (A:=stA x) rfl rfl rfl (stA_one _ _) ?_; intro w5 hv5 hb5))
   have I1:=Hi (show Cl w R n m M seen V init (x :: init) (.slice (some ⟨gb,0,none⟩) k c) w5 from by
    have h1:=HI.out.kept hb5
    refine ⟨h1.bel,h1.m0,?_,h1.sm,h1.ml,?_,h1.s.perm fun y=>by simp [or_comm]⟩
    ·have h2:=own_takeG (m:=k) h1.own (by rw [hk1]; omega) (by simp)
     rw [stCells_takeG,show (init ++ [x]).take k=init from by rw [HK.out]; simp] at h2
     rw [← HK.out]
     exact h2
    ·exact h1.ne)
   have HAT:=Hi hv5
   have HBA:=Hi (show w.heap.size+2≤wr.heap.size∧wr.heap.size≠M∧gb≠wr.heap.size from ⟨by have:=hgl.1; have:=hgl.2; omega,fun e=>by have:=HI.out.sm.lt; omega,by have:=hgl.2; omega⟩)
   have HL2:=Hi (show (X.T.length+3 - V.length) * 81+init.length<g0 from by have:=HLT.out.1; rw [hk1,HK.out] at this; omega)
   have HLE:=Hi (And.intro HLT.out.2.1 HLT.out.2.2)
   clear HI HLT HRD HXI HIL hlen hw1 hk1 hv5 hb5 hgl hk4 hkc
   generalize wr.heap.size=Ba at *
   have hk:=HK.out
   clear HK
   subst hk
   go_loopg [9,12] (X.T.length+4) (fun gk v tv wy=>∃ seen V wl xb at_,tv=.bool xb∧Cl w R n m M seen V wl (if xb=true then at_ :: wl else wl) v wy∧AgAt wy Ba (stA at_)∧v.ownBlock≠some Ba∧(X.T.length+3 - V.length) * 81+wl.length<g0∧V.length≤X.T.length+2∧X.T.length+3 - V.length<gk)
   case atStart=>exact ⟨seen,V,init,true,x,rfl,I1.out,HAT.out,by simp only [Value.ownBlock]; intro e; exact HBA.out.2.2 (Option.some.inj e),HL2.out,HLE.out.2,by omega⟩
   case round =>
    clear I1 HAT HL2
    obtain ⟨seen2,V2,wl,xb,at2,rfl,hI,hat,hne,hl1,hl2,hl3⟩:=hrel
    have HI:=Hi hI
    have HAT:=Hi hat
    have HNE:=Hi hne
    have HL:=Hi (And.intro hl1 (And.intro hl2 hl3))
    obtain ⟨g1,rfl⟩:∃ g1,gk=g1+1:=⟨gk - 1,by omega⟩
    clear hI hat hne hl1 hl2 hl3
    cases xb with
    | false =>
     go_wp2_with fail
     go_roundg g0
     case rel=>exact ⟨seen2,V2,wl,HI.out,HL.out.1,by have:=HLE.out.1; omega,HL.out.2.1⟩
     case measure=>omega
    | true =>
     have HM:=Hi (show decide (at2=m)=decide (at2=m) from rfl)
     by_cases hm:at2=m
     ·have HQ:=Hi (show decide (at2=m)=true from decide_eq_true hm)
      have HE:=Hi (show Climbed R n m w (.returned (.bool true)) wr from ⟨true,rfl,⟨fun _=>by subst hm; exact HI.out.s.found,fun _=>rfl⟩,HI.out.bel⟩)
      clear hm
      go_wp2_with (first | (refine wpList_load_ag stT (by kernel_rfl) _ rfl _ rfl (A:=stA at2) rfl HAT.out ?_) | (refine wpList_load_ag stT (by kernel_rfl) _ rfl _ rfl (A:=stA m) rfl HI.out.m0 ?_) | (refine wpList_value (by kernel_rfl) (exec_eql_st rfl at2 m rfl rfl) ?_; rw [HQ.out]))
      try rw [Exit.noGoto_ret]
      go_ret
      exact HE.out
     ·have HQ:=Hi (show decide (at2=m)=false from decide_eq_false hm)
      have HNM:=Hi hm
      have HWA:=Hi (show StWf at2 from by
       have h1:=HI.out.s.come at2 (Or.inr (by simp))
       exact HWF.out _ (h1.closed (V:=fun y=>Gm.has g y=true) HHN.out fun a b _ hab=>HHAS.out a b hab))
      obtain ⟨sb2,hsb2⟩:∃ b,b=decide (at2 ∈ seen2):=⟨_,rfl⟩
      have HSE:=Hi hsb2
      have HLK:=Hi (show (Instr.lookup 242 (.map (some M)) (snV at2) true).run Tryz.prog wr=.ok (.tuple #[.agg #[],.bool sb2]) wr from by
       rw [HI.out.sm.lookOk mtSet at2 HWA.out,lk_nodes,hsb2]
       by_cases h:at2 ∈ seen2
       ·rw [if_pos h,decide_eq_true h]; rfl
       ·rw [if_neg h,decide_eq_false h]; rfl)
      clear hm hsb2
      go_upto_region 9 with (first | (refine wpList_load_ag stT (by kernel_rfl) _ rfl _ rfl (A:=stA at2) rfl HAT.out ?_) | (refine wpList_load_ag stT (by kernel_rfl) _ rfl _ rfl (A:=stA m) rfl HI.out.m0 ?_) | (refine wpList_value (by kernel_rfl) (exec_eql_st rfl at2 m rfl rfl) ?_; rw [HQ.out]) | (refine wpList_value (by kernel_rfl) (exec_lookup rfl rfl rfl HLK.out) ?_) | (refine wpList_store_newag emT rfl _ _ rfl rfl _ (A:=#[]) rfl rfl rfl (by simp) ?_; intro w6 hv6 hb6))
      have HV6B:=Hi (Below.size hb6)
      replace HAT:=Hi (AgAt.kept HAT.out hb6)
      replace HI:=Hi (HI.out.kept hb6)
      clear hv6 hb6 HLK HQ
      cases sb2 with
      | true =>
       have HSK:=Hi (HI.out.s.skip (of_decide_eq_true HSE.out.symm))
       go_wp2_with fail
       go_roundg g0
       case rel=>exact ⟨seen2,V2,wl,HI.out.with HSK.out,HL.out.1,by have:=HLE.out.1; omega,HL.out.2.1⟩
       case measure=>omega
      | false =>
       have HNS:=Hi (of_decide_eq_false HSE.out.symm)
       have HAS:=Hi (aside2_any at2 w6 (HC.out.kept HI.out.bel) (AgAt.kept HSB.out HI.out.bel) HWA.out)
       have hw4:wl.length≤6900:=by have:=HL.out.1; have:=HLE.out.1; omega
       obtain ⟨pw,cw,hu,-⟩:=own_sliceG HI.out.own
       subst hu
       obtain ⟨i0,hi0,hz00,hz1,hz22⟩:=info_parts oinfo_st
       go_upto_region 11 with (first | (refine wpList_load_ag stT (by kernel_rfl) _ rfl _ rfl (A:=stA at2) rfl HAT.out ?_) | (go_at_call 242; refine HAS.out.mono ?_; rintro e w7 ⟨v7,xs,hxs,hx60,rfl,hov,hb7⟩; obtain ⟨p7,c7,rfl,-⟩:=own_sliceG hov; have HRX:=own_rdS hov; have HI7:=HI.out.kept hb7; have HAT7:=AgAt.kept HAT.out hb7; have HB7:=hb7; have HXS:=hxs; have HX6:=hx60) | (at_builtin; refine wpList_append_k rfl _ _ 36 rfl (w.heap.size+2) 35 i0 _ 2 16 Tryz.underlying36 hi0 hz00 hz1 (by decide) hz22 (by decide) rfl _ wl.length (stCells wl) rfl HI7.own p7 xs.length c7 (stCells xs) rfl (stCells_length xs) HRX.1 HRX.2 stCells_one (by omega) (by have:=HI7.bel.size; have:=HI7.ml; have:=HI7.sm.lt; omega) ?_; intro p8 c8 w8 ho8 hg8 hne8))
       obtain ⟨I8,ht8⟩:=HI7.app ho8 rfl hg8 hne8
       have HT8:=Hi ht8
       have I8:=Hi I8
       have HAT8:=Hi (AgAt.block HAT7 (ht8.block _ (AgAt.lt HAT7) HNE.out))
       have HNB8:=Hi (show (Value.slice p8 (wl.length+xs.length) c8).ownBlock≠some Ba from fun e=>by
        rcases hne8 _ e with h1 | h1
        ·exact HNE.out h1
        ·have:=AgAt.lt HAT7; omega)
       have HXS:=Hi HXS
       have HX6:=Hi HX6
       clear HI7 HAT7 hov HB7 ho8 hg8 hne8 HRX HT8 HNE HI HAT HAS ht8 hb7 hxs hx60 hw4
       obtain ⟨k8,hk8⟩:∃ k,k=wl.length+xs.length:=⟨_,rfl⟩
       rw [← hk8] at I8 HNB8 ⊢
       have HK8:=Hi hk8
       obtain ⟨mb,hmb⟩:∃ b,b=decide (wl ++ xs ≠ []∨seen2 ≠ []):=⟨_,rfl⟩
       have HMB:=Hi hmb
       have HLN:=Hi (show (Builtin.len_ #[242] 3 #[.map (some M)]).run Tryz.prog w8=.ok (.int .i64 (seen2.length:Int)) w8 from by
        have h1:=I8.out.sm.len mtSet 3
        unfold nodesOf at h1
        rw [List.length_map] at h1
        exact h1)
       clear hmb hk8
       go_cut [9,56] (fun s9 s56 wx=>s9=.slice p8 k8 c8∧s56=.bool mb∧wx=w8)
       case first =>
        by_cases hw:wl ++ xs=[]
        ·have hz:k8=0:=by rw [HK8.out,← List.length_append,hw]; rfl
         have HZ:=Hi hz
         have d0:decide (0<k8)=false:=decide_eq_false (by omega)
         have hln:=HLN.out
         by_cases hs:seen2=[]
         ·have HV:=Hi (show mb=false from by rw [HMB.out,decide_eq_false]; simp [hw,hs])
          have D1:=Hi (show decide (0<seen2.length)=false from decide_eq_false (by rw [hs]; decide))
          clear hw hs hz
          go_wp2
          go_meet
          case rel=>exact ⟨by rw [HZ.out],by rw [HV.out,D1.out],rfl⟩
         ·have HV:=Hi (show mb=true from by rw [HMB.out,decide_eq_true]; exact Or.inr hs)
          have D1:=Hi (show decide (0<seen2.length)=true from decide_eq_true (by have:=List.length_pos_iff.2 hs; omega))
          clear hw hs hz
          go_wp2
          go_meet
          case rel=>exact ⟨by rw [HZ.out],by rw [HV.out,D1.out],rfl⟩
        ·have HV:=Hi (show mb=true from by rw [HMB.out,decide_eq_true]; exact Or.inl hw)
         have d0:decide (0<k8)=true:=decide_eq_true (by have:=HK8.out; have h1:=List.length_pos_iff.2 hw; rw [List.length_append] at h1; omega)
         clear hw
         go_wp2
         go_meet
         case rel=>exact ⟨rfl,by rw [HV.out],rfl⟩
       case rest =>
        rename World=>w9
        obtain ⟨rfl,rfl,rfl⟩:=hcut
        clear HLN
        go_upto_if 56 with fail
        go_cut [] (fun wx=>∃ seen',SMap wx M (nodesOf seen')∧(∀ y ∈ seen',y=at2∨y ∈ seen2)∧(∀ y ∈ seen2,y ∈ seen')∧(at2 ∈ seen'∨wl ++ xs=[])∧Turns (fun k=>k=M) w9 wx)
        case first =>
         cases mb with
         | false =>
          have HE:=Hi (show wl ++ xs=[] from by
           have h1:=of_decide_eq_false HMB.out.symm
           cases h:wl ++ xs with
           | nil=>rfl
           | cons a l=>exact absurd (Or.inl (by rw [h]; simp)) h1)
          go_wp2_with fail
          go_meet
          case rel=>exact ⟨seen2,I8.out.sm,fun y hy=>Or.inr hy,fun y hy=>hy,Or.inr HE.out,Turns.refl _ _⟩
         | true =>
          obtain ⟨wu,hrun,hmu,htu,hzu⟩:=I8.out.sm.upd mtSet at2 (.agg #[]) HWA.out (by rw [lk_nodes,if_neg HNS.out])
          have HU:=Hi (And.intro hmu htu)
          clear hmu htu hzu
          go_wp2_with (first | (refine wpList_load_ag stT (by kernel_rfl) _ rfl _ rfl (A:=stA at2) rfl HAT8.out ?_) | (refine wpList_updG rfl _ _ _ _ rfl rfl rfl rfl hrun ?_))
          go_meet
          case rel=>exact ⟨seen2 ++ [at2],by unfold nodesOf; rw [List.map_append]; exact HU.out.1,fun y hy=>by rcases List.mem_append.1 hy with h | h; exact Or.inr h; exact Or.inl (List.mem_singleton.1 h),fun y hy=>List.mem_append_left _ hy,Or.inl (by simp),HU.out.2⟩
        case rest =>
         rename World=>w10
         obtain ⟨seen3,hs1,hs2,hs3,hs4,ht10⟩:=hcut
         have I9:=Hi (show Cl w R n m M seen2 V2 (wl ++ xs) (at2 :: wl) (.slice p8 k8 c8) w9∧SMap w10 M (nodesOf seen3)∧Turns (fun k=>k=M) w9 w10 from ⟨I8.out,hs1,ht10⟩)
         have HS3:=Hi (And.intro hs2 (And.intro hs3 hs4))
         have HAT9:=Hi (AgAt.block HAT8.out (ht10.block _ (AgAt.lt HAT8.out) HBA.out.2.1))
         have HBL:=Hi (show Below w.heap.size w w10 from I8.out.bel.trans (ht10.below (fun k _ hk=>by have:=I8.out.ml; omega) I8.out.bel.size))
         clear hs1 hs2 hs3 hs4 ht10 I8 HAT8
         go_upto_region 14 with fail
         have hba:=(Below.refl w10.heap.size w10).alloc (Nat.le_refl _) (.cells #[.int .i64 0,.int .i64 0,.string ⟨#[]⟩] 106)
         have hbd:=Below.drew (Below.refl (w10.alloc (.cells #[.int .i64 0,.int .i64 0,.string ⟨#[]⟩] 106)).heap.size (w10.alloc (.cells #[.int .i64 0,.int .i64 0,.string ⟨#[]⟩] 106)))
         have hbx:=hba.trans (hbd.mono hba.size)
         have HSP:=Hi ((AgAt.new w10 #[.int .i64 0,.int .i64 0,.string ⟨#[]⟩] 106).kept hbd)
         have HBD:=Hi (HBL.out.trans (hbx.mono HBL.out.size))
         have HCD:=Hi (HC.out.kept HBD.out)
         have HCB:=Hi (show ∀ k,χ k≠0→¬ k=w10.heap.size from fun k hk e=>by have:=HC.out.lt k hk; have:=HBL.out.size; omega)
         have HBB:=Hi (show Ba≠w10.heap.size∧M≠w10.heap.size∧w9.heap.size≤w10.heap.size from ⟨fun e=>by have:=AgAt.lt HAT9.out; omega,fun e=>by have:=I9.out.2.1.lt; omega,I9.out.2.2.size⟩)
         have HAT:=Hi (AgAt.kept HAT9.out hbx)
         have HTM:=Hi (I9.out.2.2.trans (Turns.of_below hbx))
         have HSM:=Hi (I9.out.2.1.below hbx)
         have HM0:=Hi (AgAt.kept (I9.out.1.m0.block (I9.out.2.2.block _ I9.out.1.m0.lt (by have:=I9.out.1.ml; omega))) hbx)
         clear hba hbd hbx HAT9
         refine wp_region_held_drew (S:=fun W=>Turns (fun k=>k=w10.heap.size) (w10.alloc (.cells #[.int .i64 0,.int .i64 0,.string ⟨#[]⟩] 106)).drew W) (by kernel_rfl) (Turns.refl _ _) (fun hS=>?_)
         generalize (w10.alloc (.cells #[.int .i64 0,.int .i64 0,.string ⟨#[]⟩] 106)).drew=wd at *
         generalize w10.heap.size=bs at *
         obtain ⟨ib,hib⟩:∃ b,b=(Tm.look X.T at2).isSome:=⟨_,rfl⟩
         obtain ⟨va,hva⟩:∃ s,s=(Tm.look X.T at2).getD zS:=⟨_,rfl⟩
         have HSPOT:=Hi (fun (W:World) (hc:Core W X χ g)=>show Calls Tryz.prog 155 #[.pointer (some ⟨X.P,0,none⟩),snV at2] W fun e w'=>e=.returned (.tuple #[.agg (spA va),.bool ib])∧Below W.heap.size W w' from by
          rw [hib,hva]; exact spot_any at2 W hc.tree HWA.out)
         have HIV:=Hi (show (ib=true→g.s at2=some va)∧(ib=false→g.s at2=none) from by
          rw [hib,hva,← HC.out.hs]
          cases Tm.look X.T at2 with
          | none=>exact ⟨fun h=>(by cases h),fun _=>rfl⟩
          | some s=>exact ⟨fun _=>rfl,fun h=>(by cases h)⟩)
         clear hib hva
         refine tX 0 rfl hS ?_
         refine tX 1 rfl hS ?_
         refine tX 2 rfl hS ?_
         refine tK 3 (v:=?_) rfl ?_ hS ?_
         rotate_left
         ·intro W hSW
          have y:W.cell? ⟨X.b,4,none⟩=some (ptV X.P):=(HCD.out.turns hSW HCB.out).cP
          go_simp
          all_goals with_reducible rfl
         go_simp
         refine tK 4 (v:=snV at2) rfl (fun W hSW=>exec_load_ag stT rfl rfl rfl (AgAt.block HAT.out (hSW.block _ (AgAt.lt HAT.out) HBB.out.1))) hS ?_
         go_simp
         refine rD 5 rfl (fun K hK=>?_)
         go_simp
         go_wp2_with (go_at_call 155; refine (HSPOT.out _ HCD.out).mono ?_; rintro e wn ⟨rfl,hbn⟩)
         have HSP1:=Hi (AgAt.kept HSP.out hbn)
         have HTN:=Hi (hS.trans (Turns.of_below hbn))
         refine hK.out _ _ HTN.out (fun hS=>?_)
         clear hK K hbn
         refine tX 6 rfl hS ?_
         refine tX 7 rfl hS ?_
         refine tX 8 rfl hS ?_
         go_simp
         refine rD 9 rfl (fun K hK=>?_)
         refine step_of (by kernel_rfl) ?_
         refine wp_store_ag spT _ _ rfl bs rfl _ HSP1.out (A:=spA va) rfl rfl rfl (spA_one _) ?_
         intro w12 hv12 hko12 hsz12 hbn12
         have ht12:=stored_turns hko12 hsz12 hbn12
         have HV12:=Hi hv12
         refine hK.out _ _ (HTN.out.trans (ht12.mono fun k _ hk=>Or.inl hk)) (fun hS=>?_)
         clear hK K hv12 hko12 hsz12 hbn12 ht12 HSP1 HTN
         refine tX 10 rfl hS ?_
         go_simp
         refine wpAnyH_done (by kernel_rfl) ?_ _
         go_simp
         replace HAT:=Hi (AgAt.block HAT.out (hS.block _ (AgAt.lt HAT.out) HBB.out.1))
         replace HSM:=Hi (HSM.out.turns hS HBB.out.2.1)
         replace HM0:=Hi (AgAt.block HM0.out (hS.block _ (AgAt.lt HM0.out) (by have:=I9.out.1.m0.lt; have:=HBB.out.2.2; omega)))
         replace HTM:=Hi (HTM.out.trans (hS.mono fun k _ hk=>Or.inr (by have:=HBB.out.2.2; omega)))
         clear hS HSP HSPOT HCD HBD HBL
         go_wp2_with (first | (refine wpList_load_part stT rfl _ rfl _ 0 rfl [.int .i64 va.1.1,.int .i64 va.1.2] rfl HV12.out spPar ?_) | (refine wpList_store_ag stT rfl _ _ rfl Ba rfl _ HAT.out (A:=stA va.1) rfl rfl rfl (stA_one _ _) ?_; intro w13 hv13 hko13 hsz13 hbn13))
         have ht13:=stored_turns hko13 hsz13 hbn13
         have HSR:=Hi (show Gm.Srch R n m seen3 (at2 :: V2) (if ib=true then va.1 :: (wl ++ xs) else wl ++ xs) from by
          have hin:∀ y,y ∈ (if ib=true then va.1 :: (wl ++ xs) else wl ++ xs)↔y ∈ wl ++ xs∨(ib=true∧y=va.1):=fun y=>by
           cases ib with
           | false=>simp
           | true=>rw [if_pos rfl,List.mem_cons]; simp [or_comm]
          have hpar:ib=true→R at2 va.1:=fun h=>(HST.out _ _).2 (Or.inl ⟨va.2,HIV.out.1 h⟩)
          refine I9.out.1.s.expand HAC.out HNS.out HNM.out (fun y hy=>?_) (fun y hy=>(hin y).2 (Or.inl (List.mem_append_left _ hy))) (fun y hy=>?_) HS3.out.1 HS3.out.2.1 (HS3.out.2.2.imp id fun he y hy=>?_)
          ·rcases (hin y).1 hy with h1 | ⟨h1,rfl⟩
           ·rcases List.mem_append.1 h1 with h1 | h1
            ·exact Or.inl h1
            ·exact Or.inr ((HST.out _ _).2 (Or.inr ((HXS.out y).1 h1)))
           ·exact Or.inr (hpar h1)
          ·rcases (HST.out _ _).1 hy with ⟨k,h1⟩ | h1
           ·cases hb:ib with
            | false=>rw [HIV.out.2 hb] at h1; cases h1
            | true =>
             have h2:=HIV.out.1 hb
             rw [h1] at h2
             have h3:=(hin y).2 (Or.inr ⟨hb,(congrArg Prod.fst (Option.some.inj h2))⟩)
             rw [hb] at h3
             exact h3
           ·exact (hin y).2 (Or.inl (List.mem_append_right _ ((HXS.out y).2 h1)))
          ·rcases (hin y).1 hy with h1 | ⟨h1,rfl⟩
           ·rw [he] at h1; cases h1
           ·exact hpar h1)
         have HVL:=Hi (show V2.length+1≤X.T.length+2 from by have:=I9.out.1.s.lt HNS.out HDD.out; simpa using this)
         have HT13:=Hi ((HTM.out.mono (G:=fun k=>k=M∨k=Ba) fun k _ hk=>Or.inl hk).trans (ht13.mono fun k _ hk=>Or.inl (Or.inr hk)))
         have HCL:=Hi (show Cl w R n m M seen3 (at2 :: V2) (wl ++ xs) (if ib=true then va.1 :: (wl ++ xs) else wl ++ xs) (.slice p8 k8 c8) w13 from by
          have C0:=I9.out.1
          have hMl:=C0.ml
          have hBa:=HBA.out
          refine ⟨C0.bel.trans (HT13.out.below (fun k _ hk=>by omega) C0.bel.size),AgAt.block HM0.out (ht13.block _ (AgAt.lt HM0.out) (by omega)),HT13.out.own C0.own fun k hk e=>?_,HSM.out.turns ht13 (by omega),hMl,C0.ne,HSR.out⟩
          rcases e with e | e
          ·exact C0.ne (by rw [hk,e])
          ·exact HNB8.out (by rw [hk,e]))
         have HLN:=Hi (show (X.T.length+3 - (at2 :: V2).length) * 81+(wl ++ xs).length<g0∧(at2 :: V2).length≤X.T.length+2∧X.T.length+3 - (at2 :: V2).length<g1 from by
          have h1:=HL.out
          have h2:=HVL.out
          have h3:=HX6.out
          rw [List.length_cons,List.length_append]
          omega)
         have HV13:=Hi hv13
         clear hv13 hko13 hsz13 hbn13 ht13 HSR HIV HSM HM0 HTM HAT
         go_roundg g1
         case rel=>exact ⟨seen3,at2 :: V2,wl ++ xs,ib,va.1,rfl,HCL.out,HV13.out,HNB8.out,HLN.out.1,HLN.out.2.1,HLN.out.2.2⟩
         case measure=>omega
open Go.RowKit
open Tm (Sp Tr has put cut kids)
def stepR (g:Gm.G) (up:Bool):Qm.St→Qm.St→Prop:=if up=true then Gm.UpS g else Gm.DnS g
theorem reach_any {X:Gx} {χ:Nat→Nat} {g:Gm.G} (n m:Qm.St) (up:Bool) (w:World) (h:Core w X χ g) (hn:Gm.has g n=true) (hm:Gm.has g m=true) :
  Calls Tryz.prog 156 #[ptV X.b,snV n,snV m,.bool up] w (Climbed (stepR g up) n m w):=by
 have h1:∀ (w:World) (o:Obj),Below w.heap.size w (w.alloc o):=fun w o=>(Below.refl _ _).alloc (Nat.le_refl _) _
 have hz:∀ (w:World) (o:Obj),(w.alloc o).heap.size=w.heap.size+1:=fun w o=>by simp
 have hb:=(h1 w (.cells #[ptV X.b] 142)).trans (((h1 (w.alloc (.cells #[ptV X.b] 142)) (.cells (stA n) 35)).mono (by simp)).trans ((h1 ((w.alloc (.cells #[ptV X.b] 142)).alloc (.cells (stA n) 35)) (.cells (stA m) 35)).mono (by simp; omega)))
 have HC:=Hi (h.kept hb)
 have HB:=Hi hb
 have HB0:=Hi (show AgAt (((w.alloc (.cells #[ptV X.b] 142)).alloc (.cells (stA n) 35)).alloc (.cells (stA m) 35)) w.heap.size #[ptV X.b] from ((AgAt.new w _ _).kept (h1 _ _)).kept (h1 _ _))
 have HB1:=Hi (show AgAt (((w.alloc (.cells #[ptV X.b] 142)).alloc (.cells (stA n) 35)).alloc (.cells (stA m) 35)) (w.heap.size+1) (stA n) from by
  have k:=(AgAt.new (w.alloc (.cells #[ptV X.b] 142)) (stA n) 35).kept (h1 _ (.cells (stA m) 35))
  rwa [hz] at k)
 have HB2:=Hi (show AgAt (((w.alloc (.cells #[ptV X.b] 142)).alloc (.cells (stA n) 35)).alloc (.cells (stA m) 35)) (w.heap.size+1+1) (stA m) from by
  have k:=AgAt.new ((w.alloc (.cells #[ptV X.b] 142)).alloc (.cells (stA n) 35)) (stA m) 35
  rwa [hz,hz] at k)
 have HHN:=Hi hn
 have HHM:=Hi hm
 have HWF:=Hi (show ∀ x,Gm.has g x=true→StWf x from fun x hx=>has_wfG h.good hx)
 clear h hn hm hb h1 hz
 have s0:(((w.alloc (.cells #[ptV X.b] 142)).alloc (.cells (stA n) 35)).alloc (.cells (stA m) 35)).cell? ⟨w.heap.size,0,none⟩=some (ptV X.b):=(AgAt.cell HB0.out 0).trans rfl
 cases up with
 | true =>
  go_enter Tryz.func156,Tryz.ntmps156
  go_wp2_with (first | (refine wpList_load_ag stT (by kernel_rfl) _ rfl _ rfl (A:=stA n) rfl HB1.out ?_) | (refine wpList_load_ag stT (by kernel_rfl) _ rfl _ rfl (A:=stA m) rfl HB2.out ?_))
  refine (climb1_any n m _ HC.out HB0.out HHN.out (HWF.out _ HHM.out)).mono ?_
  rintro e w5 ⟨b,rfl,hb1,hb2⟩
  have HE:=Hi (show Climbed (stepR g true) n m w (.returned (.bool b)) w5 from ⟨b,rfl,hb1,HB.out.trans (hb2.mono HB.out.size)⟩)
  clear hb1 hb2 s0
  go_wp2
  go_ret
  exact HE.out
 | false =>
  go_enter Tryz.func156,Tryz.ntmps156
  go_wp2_with (first | (refine wpList_load_ag stT (by kernel_rfl) _ rfl _ rfl (A:=stA n) rfl HB1.out ?_) | (refine wpList_load_ag stT (by kernel_rfl) _ rfl _ rfl (A:=stA m) rfl HB2.out ?_))
  refine (climb2_any m n _ HC.out HB0.out HHM.out (HWF.out _ HHN.out)).mono ?_
  rintro e w5 ⟨b,rfl,hb1,hb2⟩
  have HE:=Hi (show Climbed (stepR g false) n m w (.returned (.bool b)) w5 from ⟨b,rfl,hb1.trans Gm.rc_flip,HB.out.trans (hb2.mono HB.out.size)⟩)
  clear hb1 hb2 s0
  go_wp2
  go_ret
  exact HE.out
theorem opNode {x:Opp}:∀ j v,[Value.int .i64 x.nt,.int .i64 x.nr][j]?=some v→(opA x none 0)[1+j]?=some v:=fun j v h=>by
 match j,h with
 | 0,h=>exact h
 | 1,h=>exact h
theorem opRef {x:Opp}:∀ j v,[Value.int .i64 x.rt,.int .i64 x.rr][j]?=some v→(opA x none 0)[3+j]?=some v:=fun j v h=>by
 match j,h with
 | 0,h=>exact h
 | 1,h=>exact h
def Closed (g:Gm.G) (x:Opp) (w:World) (e:Ending) (w':World):Prop:=∃ b,e=.returned (.bool b)∧(b=true↔Gm.closes g x)∧Below w.heap.size w w'
theorem closes_any {X:Gx} {χ:Nat→Nat} {g:Gm.G} (x:Opp) (w:World) (h:Core w X χ g) (hn:Gm.has g (Gm.node x)=true) (hm:Gm.has g (Gm.ref x)=true) :
  Calls Tryz.prog 248 #[ptV X.b,.agg (opA x none 0)] w (Closed g x w):=by
 have hb:=(Below.refl w.heap.size w).alloc (Nat.le_refl _) (.cells (opA x none 0) 43)
 have HC:=Hi (h.kept hb)
 have HX:=Hi (AgAt.new w (opA x none 0) 43)
 have HB:=Hi hb
 have HHN:=Hi hn
 have HHM:=Hi hm
 have y0:(w.alloc (.cells (opA x none 0) 43)).cell? ⟨w.heap.size,0,none⟩=some (.int .i64 x.k):=(AgAt.cell HX.out 0).trans rfl
 clear h hb hn hm
 by_cases hk:x.k=2
 ·have d0:(x.k == 2)=true:=by simpa using hk
  have HCL:=Hi (show Gm.closes g x↔Gm.Rc (Gm.UpS g) (Gm.ref x) (Gm.node x)∨Gm.Rc (Gm.DnS g) (Gm.node x) (Gm.ref x) from by unfold Gm.closes; rw [if_pos hk])
  clear hk
  go_enter Tryz.func248,Tryz.ntmps248
  go_wp2_with (first | (refine wpList_load_part stT rfl _ rfl _ 3 rfl [.int .i64 x.rt,.int .i64 x.rr] rfl HX.out opRef ?_) | (refine wpList_load_part stT rfl _ rfl _ 1 rfl [.int .i64 x.nt,.int .i64 x.nr] rfl HX.out opNode ?_))
  refine (reach_any (Gm.ref x) (Gm.node x) true _ HC.out HHM.out HHN.out).mono ?_
  rintro e w1 ⟨b1,rfl,hb1,hb2⟩
  have HB1:=Hi (HB.out.trans (hb2.mono HB.out.size))
  have HR1:=Hi hb1
  have HC1:=Hi (HC.out.kept hb2)
  have HX1:=Hi (AgAt.kept HX.out hb2)
  clear hb1 hb2 y0
  cases b1 with
  | true =>
   have HE:=Hi (show Closed g x w (.returned (.bool true)) w1 from ⟨true,rfl,⟨fun _=>HCL.out.2 (Or.inl (HR1.out.1 rfl)),fun _=>rfl⟩,HB1.out⟩)
   clear HC HX
   go_wp2
   go_ret
   exact HE.out
  | false =>
   go_wp2_with (first | (refine wpList_value (by kernel_rfl) (exec_load_part stT rfl rfl [.int .i64 x.rt,.int .i64 x.rr] rfl HX1.out opRef) ?_) | (refine wpList_value (by kernel_rfl) (exec_load_part stT rfl rfl [.int .i64 x.nt,.int .i64 x.nr] rfl HX1.out opNode) ?_))
   refine (reach_any (Gm.node x) (Gm.ref x) false _ HC1.out HHN.out HHM.out).mono ?_
   rintro e w2 ⟨b2,rfl,hb1,hb2⟩
   have HE:=Hi (show Closed g x w (.returned (.bool b2)) w2 from ⟨b2,rfl,⟨fun h=>HCL.out.2 (Or.inr (hb1.1 h)),fun h=>(HCL.out.1 h).elim (fun h=>by cases HR1.out.2 h) hb1.2⟩,HB1.out.trans (hb2.mono HB1.out.size)⟩)
   clear hb1 hb2
   go_wp2
   go_ret
   exact HE.out
 ·have d0:(x.k == 2)=false:=by simpa using hk
  have HCL:=Hi (show Gm.closes g x↔Gm.ref x≠(0,0)∧(Gm.Rc (Gm.UpS g) (Gm.ref x) (Gm.node x)∨Gm.Rc (Gm.DnS g) (Gm.ref x) (Gm.node x)) from by unfold Gm.closes; rw [if_neg hk])
  clear hk
  by_cases hr:Gm.ref x=(0,0)
  ·have HQ:=Hi (show decide (Gm.ref x=(0,0))=true from decide_eq_true hr)
   have HE:=Hi (show Closed g x w (.returned (.bool false)) (w.alloc (.cells (opA x none 0) 43)) from ⟨false,rfl,⟨fun h=>(by cases h),fun h=>absurd hr (HCL.out.1 h).1⟩,HB.out⟩)
   clear hr
   go_enter Tryz.func248,Tryz.ntmps248
   go_wp2_with (first | (refine wpList_load_part stT rfl _ rfl _ 3 rfl [.int .i64 x.rt,.int .i64 x.rr] rfl HX.out opRef ?_) | (refine wpList_value (by kernel_rfl) (exec_eql_st rfl (Gm.ref x) (0,0) rfl rfl) ?_; rw [HQ.out]))
   go_ret
   exact HE.out
  ·have HQ:=Hi (show decide (Gm.ref x=(0,0))=false from decide_eq_false hr)
   have HNR:=Hi hr
   clear hr
   go_enter Tryz.func248,Tryz.ntmps248
   go_wp2_with (first | (refine wpList_load_part stT rfl _ rfl _ 3 rfl [.int .i64 x.rt,.int .i64 x.rr] rfl HX.out opRef ?_) | (refine wpList_load_part stT rfl _ rfl _ 1 rfl [.int .i64 x.nt,.int .i64 x.nr] rfl HX.out opNode ?_) | (refine wpList_value (by kernel_rfl) (exec_eql_st rfl (Gm.ref x) (0,0) rfl rfl) ?_; rw [HQ.out]))
   refine (reach_any (Gm.ref x) (Gm.node x) true _ HC.out HHM.out HHN.out).mono ?_
   rintro e w1 ⟨b1,rfl,hb1,hb2⟩
   have HB1:=Hi (HB.out.trans (hb2.mono HB.out.size))
   have HR1:=Hi hb1
   have HC1:=Hi (HC.out.kept hb2)
   have HX1:=Hi (AgAt.kept HX.out hb2)
   clear hb1 hb2 y0
   cases b1 with
   | true =>
    have HE:=Hi (show Closed g x w (.returned (.bool true)) w1 from ⟨true,rfl,⟨fun _=>HCL.out.2 ⟨HNR.out,Or.inl (HR1.out.1 rfl)⟩,fun _=>rfl⟩,HB1.out⟩)
    clear HC HX
    go_wp2
    go_ret
    exact HE.out
   | false =>
    go_wp2_with (first | (refine wpList_value (by kernel_rfl) (exec_load_part stT rfl rfl [.int .i64 x.rt,.int .i64 x.rr] rfl HX1.out opRef) ?_) | (refine wpList_value (by kernel_rfl) (exec_load_part stT rfl rfl [.int .i64 x.nt,.int .i64 x.nr] rfl HX1.out opNode) ?_))
    refine (reach_any (Gm.ref x) (Gm.node x) false _ HC1.out HHM.out HHN.out).mono ?_
    rintro e w2 ⟨b2,rfl,hb1,hb2⟩
    have HE:=Hi (show Closed g x w (.returned (.bool b2)) w2 from ⟨b2,rfl,⟨fun h=>HCL.out.2 ⟨HNR.out,Or.inr (hb1.1 h)⟩,fun h=>(HCL.out.1 h).2.elim (fun h=>by cases HR1.out.2 h) hb1.2⟩,HB1.out.trans (hb2.mono HB1.out.size)⟩)
    clear hb1 hb2
    go_wp2
    go_ret
    exact HE.out
end Go.Proofs.YthfhefdfehlbkaaGreat
