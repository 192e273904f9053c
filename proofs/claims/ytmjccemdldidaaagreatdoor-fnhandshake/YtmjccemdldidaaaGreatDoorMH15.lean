import Derived.Test.YtmjccemdldidaaaGreatDoorMH14
import Derived.Deep.DeepCutAuto
import Derived.Test.YtmjccemdldidaaaGreatDoorMH09
namespace Go.Proofs.YtmjccemdldidaaaGreatDoor
open Go.RowKit
open Go.Proofs.Tryz
open Go renaming heap_alloc_new → hAN, heap_alloc_old → hAO, rounds_succ → rdS, wpList_load_row → wpLr, wpQuiet_nil → wqN
open Go.World renaming block_lt_of_cell? → wJ
open List renaming drop_succ_cons → dJ, drop_zero → dY, length_map → lU, take_succ_cons → tU, take_zero → tJ
open Nat renaming le_refl → nQ
set_option linter.unusedVariables false
set_option maxHeartbeats 8000000
set_option maxRecDepth 100000
theorem abX:prog.built 177 []=some (Iv .u32 (aA 16)):=by kernel_rfl
theorem ad1:∀W,(zeroValue 154).run prog W=.ok (.agg (Iv .u32 (aA 8))) W:=fun W=>by kernel_rfl
theorem ad0:∀W,(zeroValue 177).run prog W=.ok (.agg (Iv .u32 (aA 16))) W:=fun W=>by kernel_rfl
theorem af1:∀W,(zeroValue 87).run prog W=.ok (.agg (Iv .i64 (aA 16))) W:=fun W=>by kernel_rfl
structure yO (w:World) (gs gm:Nat) (h M S:LI) (W:World):Prop where
 hrow:W.heap[w.heap.size]? =some (.cells (Iv .u32 h) 154)
 rrow:W.heap[w.heap.size+1]? =some (.cells (Iv .u32 (aA 8)) 154)
 srow:W.heap[gs]? =some (.cells (Iv .i64 S) 87)
 mcell:∀i,i<16→W.cell? ⟨gm,i,none⟩=some (.int .u32 (aM M i))
 bel:Below w.heap.size w W
theorem yO.set {w W:World} {gs gm gv p:Nat} {h M S:LI} (s:yO w gs gm h M S W) (v:Value) (n0:w.heap.size<gv) (n1:w.heap.size+1≠gv) (n2:gs≠gv) (n3:gm≠gv):yO w gs gm h M S (W.setCell ⟨gv,p,none⟩ v):=
 ⟨(heap_setCell_other _ _ _ _ (by show _≠gv;omega)).trans s.hrow,(heap_setCell_other _ _ _ _ n1).trans s.rrow,(heap_setCell_other _ _ _ _ n2).trans s.srow,fun i hi=>by
   have e:=heap_setCell_other W ⟨gv,p,none⟩ gm v n3
   rw[←s.mcell i hi]
   unfold World.cell?
   rw[e],s.bel.setCell (by show w.heap.size≤gv;omega) _⟩
theorem yO.drews {w W:World} {gs gm:Nat} {h M S:LI} (s:yO w gs gm h M S W) (d:Nat):yO w gs gm h M S (W.drewN d):=⟨s.hrow,s.rrow,s.srow,s.mcell,bDr s.bel d⟩
theorem wZ (h zs:LI) (t:Nat) (last:Bool) (bn cap:Nat) (a0:Option Addr) (w:World) (hh:h.length=8) (h32:bJ h) (hz:zs.length=bn) (hbn:bn≤64) (hzb:aC zs) (hrd:RdK .u8 w a0 zs) (ht63:t<9223372036854775808) (Bf:LI) (HBF:Hid (∀x,jS h (gW zs) t last=x→x=Bf)) (hBf:Bf.length=8):
 Calls prog 89 #[.agg (Iv .u32 h),.slice a0 bn cap,.int .i64 t,.bool last] w fun e w'=>e=.returned (.agg (Iv .u32 Bf))∧Below w.heap.size w w':=by
 have hz8:=ad1
 have hz16:=ad0
 have hzi:=af1
 have HRD:Hid _:=hrd
 clear hrd
 have hi8:Hid (∀L:LI,L.length=8→(prog.info? 154).map (·.size)=some (Iv .u32 L).size):=fun L hL=>by rw[aD,hL];exact UL
 have hi16:Hid (∀L:LI,L.length=16→(prog.info? 177).map (·.size)=some (Iv .u32 L).size):=fun L hL=>by rw[aD,hL];exact AU
 obtain⟨W,hW,g0,g1,hs,hBW⟩:=iU w (.cells (Iv .u32 h) 154) (.cells (Iv .u32 (aA 8)) 154)
 have G0:Hid _:=g0
 have G1:Hid _:=g1
 have HBW:Hid _:=hBW
 clear g0 g1 hBW
 go_enter func89,ntmps89
 go_wp2_with fail
 refine(acL _).mono ?_
 rintro e w1 ⟨rfl,hb1⟩
 have K0:Hid _:=(hb1.block w.heap.size (by omega)).trans G0.out
 have K1:Hid _:=(hb1.block (w.heap.size+1) (by omega)).trans G1.out
 have KB:Hid (Below w.heap.size w w1):=HBW.out.trans (hb1.mono (by omega))
 have hs1:w.heap.size+1<w1.heap.size:=by have:=hb1.size;omega
 clear hb1 G0 G1 HBW hW hs
 have HN1:Hid ((w1.alloc (.cells (Iv .u32 (aA 8)) 154)).heap[w1.heap.size]? =some (.cells (Iv .u32 (aA 8)) 154)):=hAN _ _
 go_wp2_with(refine wpPr rfl 154 _ _ rfl w1.heap.size (Iv .u32 mP) rfl rfl _ _ HN1.out (hi8.out mP rfl) rfl (aG _ _) ?_)
 intro w2 hP2
 have L0:Hid _:=(hP2.far w.heap.size (by omega)).trans ((hAO w1 (.cells (Iv .u32 (aA 8)) 154) (by omega)).trans K0.out)
 have L1:Hid _:=(hP2.far (w.heap.size+1) (by omega)).trans ((hAO w1 (.cells (Iv .u32 (aA 8)) 154) (by omega)).trans K1.out)
 have L2:Hid _:=hP2.here
 have LB:Hid (Below w.heap.size w w2):=hP2.below _ _ (KB.out.alloc (by omega) _) (by omega)
 have hs2:w2.heap.size=w1.heap.size+1:=by rw[hP2.size];simp
 clear hP2 HN1 K0 K1 KB
 have HS2:Hid _:=hs2
 clear hs2
 have HN2:Hid ((w2.alloc (.cells (Iv .u32 (aA 16)) 177)).heap[w2.heap.size]? =some (.cells (Iv .u32 (aA 16)) 177)):=hAN _ _
 go_wp2_with(first
  | refine vK rfl 177 _ rfl (Iv .u32 (aA 16)) (by simp only[List.map_toArray,List.map_nil];exact abX) ?_
  | refine wpPr rfl 177 _ _ rfl w2.heap.size (Iv .u32 (aA 16)) rfl rfl _ _ HN2.out (hi16.out (aA 16) rfl) rfl (aG _ _) ?_)
 intro w3 hP3
 have hs2:=HS2.out
 clear HS2
 have M0:=(hP3.far w.heap.size (by omega)).trans ((hAO w2 (.cells (Iv .u32 (aA 16)) 177) (by omega)).trans L0.out)
 have M1:=(hP3.far (w.heap.size+1) (by omega)).trans ((hAO w2 (.cells (Iv .u32 (aA 16)) 177) (by omega)).trans L1.out)
 have M2:=(hP3.far w1.heap.size (by omega)).trans ((hAO w2 (.cells (Iv .u32 (aA 16)) 177) (by omega)).trans L2.out)
 have M3:=hP3.here
 have MB:Below w.heap.size w w3:=hP3.below _ _ (LB.out.alloc (by omega) _) (by omega)
 have hs3:w3.heap.size=w2.heap.size+1:=by rw[hP3.size];simp
 clear hP3 HN2 L0 L1 L2 LB
 obtain⟨gv,hgv⟩:∃x,x=w2.heap.size:=⟨_,rfl⟩
 obtain⟨gi,hgi⟩:∃x,x=w1.heap.size:=⟨_,rfl⟩
 rw[←hgv]at M3⊢
 rw[←hgi]at M2⊢
 have ho1:w.heap.size+1<gi:=by omega
 have ho2:gi<gv:=by omega
 have ho3:w3.heap.size=gv+1:=by omega
 clear hgv hgi hs1 hs2 hs3
 have N0:Hid _:=M0
 have N1:Hid _:=M1
 have N2:Hid _:=M2
 have N3:Hid _:=M3
 have NB:Hid _:=MB
 clear M0 M1 M2 M3 MB
 go_wp2_with fail
 go_loopw [23] (fun i wr=>∃j:Nat,j≤8∧i=.int .i64 j∧wr.heap[w.heap.size]? =some (.cells (Iv .u32 h) 154)∧wr.heap[w.heap.size+1]? =some (.cells (Iv .u32 (aA 8)) 154)∧wr.heap[gi]? =some (.cells (Iv .u32 mP) 154)∧wr.heap[gv]? =some (.cells (Iv .u32 (qO h j)) 177)∧wr.heap.size=gv+1∧Below w.heap.size w wr) (fun i _=>8 - (intOf i).toNat)
 case atStart=>exact⟨0,by omega,rfl,N0.out,N1.out,N2.out,by rw[IL];exact N3.out,ho3,NB.out⟩
 case round=>
  obtain⟨j,hj,rfl,M0,M1,M2,M3,hsz,MB⟩:=hrel
  clear N0 N1 N2 N3 NB ho3
  by_cases hlt:j<8
  ·have ci:wr.cell? ⟨gi,j,none⟩=some (.int .u32 (aM mP j)):=aE.cell (show aE wr gi .u32 mP _ from M2) j hlt
   have cw:wr.cell? ⟨w.heap.size,j,none⟩=some (.int .u32 (aM h j)):=aE.cell (show aE wr _ .u32 h _ from M0) j (by omega)
   have HS:Hid (((qO h j).set j (aM h j)).set (j+8) (aM mP j)=qO h (j+1)):=IK h j hh hlt
   have hL:=AJ h j hh (by omega)
   generalize qO h j=L at*
   generalize aM h j=x at*
   generalize aM mP j=y at*
   have cv:wr.cell? ⟨gv,j,none⟩=some (.int .u32 (L.getD j 0)):=aE.cell (show aE wr gv .u32 L _ from M3) j (by omega)
   have cv8:wr.cell? ⟨gv,j+8,none⟩=some (.int .u32 (L.getD (j+8) 0)):=aE.cell (show aE wr gv .u32 L _ from M3) (j+8) (by omega)
   have f0:wr.frozen? ⟨gv,j,none⟩=false:=frozen_of_row _ _ _ _ _ M3
   have f8:wr.frozen? ⟨gv,j+8,none⟩=false:=frozen_of_row _ _ _ _ _ M3
   have nei:¬gi=gv:=by omega
   have i8:(j:Int)+8<16:=by omega
   have HSZ:Hid _:=hsz
   have N0:Hid _:=M0
   have N1:Hid _:=M1
   have N2:Hid _:=M2
   have N3:Hid _:=M3
   have NB:Hid _:=MB
   clear M0 M1 M2 M3 MB hsz
   go_wp2
   go_roundw
   case rel=>
    refine⟨j+1,by omega,by go_num,?_,?_,?_,?_,?_,?_⟩
    ·rw[heap_setCell_other _ _ _ _ (by simp;omega),heap_setCell_other _ _ _ _ (by simp;omega)]
     exact N0.out
    ·rw[heap_setCell_other _ _ _ _ (by simp;omega),heap_setCell_other _ _ _ _ (by simp;omega)]
     exact N1.out
    ·rw[heap_setCell_other _ _ _ _ (by simp;omega),heap_setCell_other _ _ _ _ (by simp;omega)]
     exact N2.out
    ·rw[←HS.out]
     exact aE.setCell (aE.setCell (show aE wr gv .u32 L _ from N3.out) j x) (j+8) y
    ·simpa using HSZ.out
    ·exact(NB.out.setCell (by simp;omega) _).setCell (by simp;omega) _
   case measure=>simp[intOf];omega
  ·obtain rfl:j=8:=by omega
   rw[IJ h hh]at M3
   obtain⟨v12,v13,v14⟩:=M9 h hh
   have hL:(h++mP).length=16:=by simp[hh,mP]
   have c12:wr.cell? ⟨gv,12,none⟩=some (.int .u32 1359893119):=by rw[←v12];exact aE.cell (show aE wr gv .u32 _ _ from M3) 12 (by omega)
   have c13:wr.cell? ⟨gv,13,none⟩=some (.int .u32 2600822924):=by rw[←v13];exact aE.cell (show aE wr gv .u32 _ _ from M3) 13 (by omega)
   have c14:wr.cell? ⟨gv,14,none⟩=some (.int .u32 528734635):=by rw[←v14];exact aE.cell (show aE wr gv .u32 _ _ from M3) 14 (by omega)
   have f12:wr.frozen? ⟨gv,12,none⟩=false:=frozen_of_row _ _ _ _ _ M3
   have f13:wr.frozen? ⟨gv,13,none⟩=false:=frozen_of_row _ _ _ _ _ M3
   have f14:wr.frozen? ⟨gv,14,none⟩=false:=frozen_of_row _ _ _ _ _ M3
   have ht0:(0:Int)≤t:=by omega
   have ht1:(t:Int)<9223372036854775808:=by omega
   obtain⟨k12,e12⟩:∃x:Int,x=1359893119:=⟨_,rfl⟩
   obtain⟨k13,e13⟩:∃x:Int,x=2600822924:=⟨_,rfl⟩
   obtain⟨k14,e14⟩:∃x:Int,x=528734635:=⟨_,rfl⟩
   rw[←e12]at c12
   rw[←e13]at c13
   rw[←e14]at c14
   have HTT:Hid (vJ h t last=if last then(((h++mP).set 12 (xr k12 ((t:Int)%4294967296))).set 13 (xr k13 ((t:Int) / 4294967296))).set 14 (xr k14 4294967295)else((h++mP).set 12 (xr k12 ((t:Int)%4294967296))).set 13 (xr k13 ((t:Int) / 4294967296))):=by
    show _=_
    rw[e12,e13,e14]
    unfold vJ JT
    rw[Int.natCast_emod,Int.natCast_ediv]
    rfl
   obtain⟨V0,hV0⟩:∃x,vJ h t last=x:=⟨_,rfl⟩
   have HV:Hid (V0.length=16∧bJ V0):=⟨by rw[←hV0,BZ h t last hh],by rw[←hV0];exact SU h32 t last⟩
   have HBF2:Hid (∀R,dI V0 (gW zs) 10=R→(List.range 8).map (oE h R)=Bf):=fun R hR=>HBF.out _ (by rw[←hR,←hV0];rfl)
   rw[hV0]at HTT
   clear hV0 HBF e12 e13 e14 v12 v13 v14 hL
   generalize(t:Int)=tt at*
   have hdm:Int.tdiv tt 4294967296=tt / 4294967296:=Int.tdiv_eq_ediv_of_nonneg ht0
   have hmm:Int.tmod tt 4294967296=tt%4294967296:=Int.tmod_eq_emod_of_nonneg ht0
   have N0:Hid _:=M0
   have N1:Hid _:=M1
   have N3:Hid _:=M3
   have NB:Hid _:=MB
   have HSZ:Hid _:=hsz
   clear M0 M1 M2 M3 MB hsz
   go_upto_if 52 with fail
   go_cut [] (fun wc=>wc.heap[w.heap.size]? =some (.cells (Iv .u32 h) 154)∧wc.heap[w.heap.size+1]? =some (.cells (Iv .u32 (aA 8)) 154)∧wc.heap[gv]? =some (.cells (Iv .u32 V0) 177)∧Below w.heap.size w wc)
   case first=>
    cases last with
    | false=>
      have HV0:Hid (V0=((h++mP).set 12 (xr k12 (tt%4294967296))).set 13 (xr k13 (tt / 4294967296))):=by
       have e:=HTT.out
       rw[if_neg (by simp)]at e
       exact e
      go_wp2_with fail
      go_meet
      exact⟨((heap_setCell_other _ _ _ _ (by simp;omega)).trans ((heap_setCell_other _ _ _ _ (by simp;omega)).trans N0.out)),((heap_setCell_other _ _ _ _ (by simp;omega)).trans ((heap_setCell_other _ _ _ _ (by simp;omega)).trans N1.out)),by rw[HV0.out];exact(aE.setCell (aE.setCell (show aE wr gv .u32 (h++mP) _ from N3.out) 12 _) 13 _),(Below.setCell (Below.setCell NB.out (by simp;omega) _) (by simp;omega) _)⟩
    | true=>
      have HV0:Hid (V0=(((h++mP).set 12 (xr k12 (tt%4294967296))).set 13 (xr k13 (tt / 4294967296))).set 14 (xr k14 4294967295)):=by
       have e:=HTT.out
       rw[if_pos rfl]at e
       exact e
      go_wp2_with fail
      go_meet
      exact⟨((heap_setCell_other _ _ _ _ (by simp;omega)).trans ((heap_setCell_other _ _ _ _ (by simp;omega)).trans ((heap_setCell_other _ _ _ _ (by simp;omega)).trans N0.out))),((heap_setCell_other _ _ _ _ (by simp;omega)).trans ((heap_setCell_other _ _ _ _ (by simp;omega)).trans ((heap_setCell_other _ _ _ _ (by simp;omega)).trans N1.out))),by rw[HV0.out];exact(aE.setCell (aE.setCell (aE.setCell (show aE wr gv .u32 (h++mP) _ from N3.out) 12 _) 13 _) 14 _),(Below.setCell (Below.setCell (Below.setCell NB.out (by simp;omega) _) (by simp;omega) _) (by simp;omega) _)⟩
   case rest=>
    obtain⟨x0,x1,x3,xb⟩:=hcut
    have lw:=(Array.getElem?_eq_some_iff.1 x0).1
    have lw1:=(Array.getElem?_eq_some_iff.1 x1).1
    have lv:=(Array.getElem?_eq_some_iff.1 x3).1
    have Y0:Hid _:=x0
    have Y1:Hid _:=x1
    have Y3:Hid _:=x3
    have YB:Hid _:=xb
    clear x0 x1 x3 xb N0 N1 N3 NB HTT c12 c13 c14 f12 f13 f14
    go_wp2_with fail
    refine(yC zs bn 16 hz hzb (by decide) (by omega) a0 cap wc ?hrd).mono ?_
    case hrd=>
     intro i hi
     obtain⟨b',o',e1,e2⟩:=HRD.out i hi
     refine⟨b',o',e1,?_⟩
     rw[Below.cell YB.out (p:=⟨b',o'+i,none⟩) (wJ _ _ e2)]
     exact e2
    rintro e w4 ⟨vm,rfl,hown,hb4⟩
    have X0:Hid (w4.heap[w.heap.size]? =some (.cells (Iv .u32 h) 154)):=(hb4.block _ lw).trans Y0.out
    have X1:Hid (w4.heap[w.heap.size+1]? =some (.cells (Iv .u32 (aA 8)) 154)):=(hb4.block _ lw1).trans Y1.out
    have X3:Hid (w4.heap[gv]? =some (.cells (Iv .u32 V0) 177)):=(hb4.block _ lv).trans Y3.out
    have XB:Hid (Below w.heap.size w w4):=Below.trans YB.out (hb4.mono YB.out.size)
    clear hb4 Y0 Y1 Y3 YB
    have hwl:(bI zs 16).length=16:=kH _ _
    obtain⟨_,hbad⟩|⟨gm,capm,rfl,hgm1,hgm2,_,_,hmc0,_⟩:=hown.at
    ·exact absurd (congrArg List.length hbad) (by rw[hwl];simp)
    rw[hwl]at hmc0⊢
    obtain⟨M,hMd⟩:∃x,gW zs=x:=⟨_,rfl⟩
    have hmc:Hid (∀i,i<16→w4.cell? ⟨gm,i,none⟩=some (.int .u32 (aM M i))):=fun i hi=>by rw[←hMd];exact hmc0 i hi
    have HMM:Hid (M.length=16∧bJ M):=by rw[←hMd];exact⟨yY _,M8 hzb⟩
    rw[hMd]at HBF2
    have hgmv:gv<gm:=by omega
    clear hmc0 hown hMd hwl hgm1 HSZ
    go_wp2_with fail
    go_loopw [13] (fun i wr=>∃k:Nat,k≤10∧i=.int .i64 k∧wr.heap[w.heap.size]? =some (.cells (Iv .u32 h) 154)∧wr.heap[w.heap.size+1]? =some (.cells (Iv .u32 (aA 8)) 154)∧(∀i,i<16→wr.cell? ⟨gm,i,none⟩=some (.int .u32 (aM M i)))∧gm<wr.heap.size∧wr.heap[gv]? =some (.cells (Iv .u32 (dI V0 M k)) 177)∧Below w.heap.size w wr) (fun i _=>10 - (intOf i).toNat)
    case atStart=>exact⟨0,by omega,rfl,X0.out,X1.out,hmc.out,hgm2,X3.out,XB.out⟩
    case round=>
     obtain⟨k,hk,rfl,M0,M1,MC,hgs0,M3,MB⟩:=hrel
     clear X0 X1 hmc hgm2 X3 XB
     by_cases hlt:k<10
     ·have HLN:Hid (∀x,x=jN (dI V0 M k) M k 8→dI V0 M (k+1)=x):=fun x hx=>by rw[hx];rfl
      have hVl:(dI V0 M k).length=16:=by rw[jW,HV.out.1]
      have hVa:Hid (bJ (dI V0 M k)):=uL HV.out.2 M k
      generalize dI V0 M k=VR at*
      obtain⟨WX,rfl⟩:∃X,X=wr:=⟨_,rfl⟩
      have N0:Hid _:=M0
      have N1:Hid _:=M1
      have NC:Hid _:=MC
      have N3:Hid _:=M3
      have NB:Hid _:=MB
      clear M0 M1 MC M3 MB
      go_wp2_with fail
      refine(aa2 k hlt _).mono ?_
      rintro e w5 ⟨rfl,hb5⟩
      have hlv:gv<WX.heap.size:=by omega
      have HN5:Hid ((w5.alloc (.cells (Iv .i64 (aA 16)) 87)).heap[w5.heap.size]? =some (.cells (Iv .i64 (aA 16)) 87)):=hAN _ _
      have his:Hid ((prog.info? 87).map (·.size)=some (Iv .i64 (qM k)).size):=by show _=_;rw[aD,mR];exact nI
      have hzs5:Hid ((Iv .i64 (aA 16)).size=(Iv .i64 (qM k)).size):=by show _=_;rw[aD,aD,mR];rfl
      go_wp2_with(refine wpPr rfl 87 _ _ rfl w5.heap.size (Iv .i64 (qM k)) rfl rfl _ _ HN5.out his.out hzs5.out (aG _ _) ?_)
      intro w6 hP6
      have hs5:=hb5.size
      have P0:=(hP6.far w.heap.size (by omega)).trans ((hAO w5 (.cells (Iv .i64 (aA 16)) 87) (by omega)).trans ((hb5.block _ (by omega)).trans N0.out))
      have P1:=(hP6.far (w.heap.size+1) (by omega)).trans ((hAO w5 (.cells (Iv .i64 (aA 16)) 87) (by omega)).trans ((hb5.block _ (by omega)).trans N1.out))
      have P3:=(hP6.far gv (by omega)).trans ((hAO w5 (.cells (Iv .i64 (aA 16)) 87) (by omega)).trans ((hb5.block _ (by omega)).trans N3.out))
      have PM:w6.heap[gm]? =WX.heap[gm]? :=(hP6.far gm (by omega)).trans ((hAO w5 (.cells (Iv .i64 (aA 16)) 87) (by omega)).trans (hb5.block _ hgs0))
      have PC:∀i,i<16→w6.cell? ⟨gm,i,none⟩=some (.int .u32 (aM M i)):=fun i hi=>by
       rw[←NC.out i hi]
       unfold World.cell?
       rw[PM]
      have PB:Below w.heap.size w w6:=hP6.below _ _ ((NB.out.trans (hb5.mono (by omega))).alloc (by omega) _) (by omega)
      have PS:=hP6.here
      have hs6:w6.heap.size=w5.heap.size+1:=by rw[hP6.size];simp
      obtain⟨gs,hgs⟩:∃x,x=w5.heap.size:=⟨_,rfl⟩
      rw[←hgs]at PS⊢
      have hgs1:gm<gs:=by omega
      have ZZ:Hid (yO w gs gm h M (qM k) w6):=⟨P0,P1,PS,PC,PB⟩
      have hgsz:gs<w6.heap.size:=by omega
      have RR:Hid (w6.heap[gv]? =some (.cells (Iv .u32 (jN VR M k 0)) 177)):=P3
      clear P0 P1 P3 PM PC PB PS hP6 hb5 hgs hs6 hs5 HN5 N0 N1 NC N3 NB
      have n0:w.heap.size<gv:=by omega
      have n1:w.heap.size+1≠gv:=by omega
      have n2:gs≠gv:=by omega
      have n3:gm≠gv:=by omega
      go_wp2_with fail
      have hdec:decide ((k:Int)<10)=true:=by simp;omega
      try simp only[hdec]
      clear hdec
      go_loopw [15] (fun i wr=>∃j:Nat,j≤8∧i=.int .i64 j∧wr.heap[gv]? =some (.cells (Iv .u32 (jN VR M k j)) 177)∧gs<wr.heap.size∧yO w gs gm h M (qM k) wr) (fun i _=>8 - (intOf i).toNat)
      case atStart=>exact⟨0,by omega,rfl,RR.out,hgsz,ZZ.out⟩
      case round=>
       obtain⟨j,hj,rfl,R0',hgsz2,Z0'⟩:=hrel
       clear RR ZZ hgsz
       by_cases hltj:j<8
       ·have HLJ:Hid (∀x,x=sS (jN VR M k j) (q0 j) (q1 j) (q2 j) (q3 j) (aM M (sg k (2*j))) (aM M (sg k (2*j+1)))→jN VR M k (j+1)=x):=fun x hx=>by rw[hx];rfl
        have hLl:(jN VR M k j).length=16:=by rw[kW,hVl]
        have HCsx:Hid ((Iv .i64 (qM k))[2*j]? =some (.int .i64 (sg k (2*j):Nat))):=by show _=_;rw[dG _ _ _ (by rw[mR];omega),←VU k (2*j)];simp[show 2*j<(qM k).length by rw[mR];omega]
        have HCsy:Hid ((Iv .i64 (qM k))[2*j+1]? =some (.int .i64 (sg k (2*j+1):Nat))):=by show _=_;rw[dG _ _ _ (by rw[mR];omega),←VU k (2*j+1)];simp[show 2*j+1<(qM k).length by rw[mR];omega]
        have hsx:=X9 k (2*j)
        have hsy:=X9 k (2*j+1)
        obtain⟨x,hxd⟩:∃z,aM M (sg k (2*j))=z:=⟨_,rfl⟩
        obtain⟨y,hyd⟩:∃z,aM M (sg k (2*j+1))=z:=⟨_,rfl⟩
        have Hx:Hid (aM M (sg k (2*j))=x):=hxd
        have Hy:Hid (aM M (sg k (2*j+1))=y):=hyd
        rw[hxd,hyd]at HLJ
        have wx:gG x:=by rw[←hxd];exact HMM.out.2 _
        have wy:gG y:=by rw[←hyd];exact HMM.out.2 _
        clear hxd hyd
        generalize sg k (2*j)=sx at*
        generalize sg k (2*j+1)=sy at*
        obtain⟨la,lb,lc,ld⟩:=afF j hltj
        obtain⟨b0,b1,b1',b2,b2',b3,b3'⟩:=afE j hltj
        have ab:q0 j≠q1 j:=by omega
        have ac:q0 j≠q2 j:=by omega
        have had:q0 j≠q3 j:=by omega
        have bc:q1 j≠q2 j:=by omega
        have bd:q1 j≠q3 j:=by omega
        have cd:q2 j≠q3 j:=by omega
        clear b0 b1 b1' b2 b2' b3 b3'
        have HC:Hid (∀W,Calls prog 105 #[.int .i64 j] W fun e w'=>e=.returned (.tuple #[.int .i64 (q0 j),.int .i64 (q1 j),.int .i64 (q2 j),.int .i64 (q3 j)])∧w'=W):=fun W=>TM j hltj W
        have HLa:Hid (bJ (jN VR M k j)):=AD hVa.out M k j
        generalize jN VR M k j=L at*
        generalize q0 j=a at*
        generalize q1 j=b at*
        generalize q2 j=c at*
        generalize q3 j=d at*
        have hwa:gG (aM L a):=HLa.out a
        have hwb:gG (aM L b):=HLa.out b
        have hwc:gG (aM L c):=HLa.out c
        have hwd:gG (aM L d):=HLa.out d
        have HM:Hid (sS L a b c d x y=put4 L a b c d (gA (aM L a) (aM L b) (aM L c) (aM L d) x y) (gB (aM L a) (aM L b) (aM L c) (aM L d) x y) (gC (aM L a) (aM L b) (aM L c) (aM L d) x y) (gD (aM L a) (aM L b) (aM L c) (aM L d) x y)):=rfl
        have HS:Hid (put4 L a b c d (aM L a) (aM L b) (aM L c) (aM L d)=L):=MN L a b c d
        have HAT:Hid (∀A B C D:Int,(put4 L a b c d A B C D).getD a 0=A∧(put4 L a b c d A B C D).getD b 0=B∧(put4 L a b c d A B C D).getD c 0=C∧(put4 L a b c d A B C D).getD d 0=D):=fun A B C D=>XW L A B C D (by omega) (by omega) (by omega) (by omega) ab ac had bc bd cd
        have HLEN:Hid (∀A B C D:Int,(put4 L a b c d A B C D).length=16):=fun A B C D=>by rw[wO,hLl]
        have HQ:Hid (∀(W:World) (A B C D:Int) (R:aE W gv .u32 (put4 L a b c d A B C D) 177),W.cell? ⟨gv,a,none⟩=some (.int .u32 A)∧W.cell? ⟨gv,b,none⟩=some (.int .u32 B)∧W.cell? ⟨gv,c,none⟩=some (.int .u32 C)∧W.cell? ⟨gv,d,none⟩=some (.int .u32 D)∧W.frozen? ⟨gv,a,none⟩=false∧W.frozen? ⟨gv,b,none⟩=false∧W.frozen? ⟨gv,c,none⟩=false∧W.frozen? ⟨gv,d,none⟩=false):=fun W A B C D R=>⟨by have:=aE.cell R a (by rw[HLEN.out];omega);rw[(HAT.out _ _ _ _).1]at this;exact this,by have:=aE.cell R b (by rw[HLEN.out];omega);rw[(HAT.out _ _ _ _).2.1]at this;exact this,by have:=aE.cell R c (by rw[HLEN.out];omega);rw[(HAT.out _ _ _ _).2.2.1]at this;exact this,by have:=aE.cell R d (by rw[HLEN.out];omega);rw[(HAT.out _ _ _ _).2.2.2]at this;exact this,frozen_of_row _ _ _ _ _ R,frozen_of_row _ _ _ _ _ R,frozen_of_row _ _ _ _ _ R,frozen_of_row _ _ _ _ _ R⟩
        generalize aM L a=A0 at*
        generalize aM L b=B0 at*
        generalize aM L c=C0 at*
        generalize aM L d=D0 at*
        have hai:(a:Int)<16:=by omega
        have hbi:(b:Int)<16:=by omega
        have hci:(c:Int)<16:=by omega
        have hdi:(d:Int)<16:=by omega
        have isx:(sx:Int)<16:=by omega
        have isy:(sy:Int)<16:=by omega
        have ij:(2:Int)*(j:Int)<16:=by omega
        have ij1:(2:Int)*(j:Int)+1<16:=by omega
        generalize qM k=S at*
        obtain⟨W0,rfl⟩:∃X,X=wr:=⟨_,rfl⟩
        have R0:Hid (aE W0 gv .u32 (put4 L a b c d A0 B0 C0 D0) 177):=by show aE _ _ _ _ _;rw[HS.out];exact R0'
        have Z0:Hid _:=Z0'
        have HGZ:Hid _:=hgsz2
        clear R0' Z0' HS hgsz2 HLa hLl
        go_wp2_with fail
        refine(HC.out _).mono ?_
        rintro e w7 ⟨rfl,hw7⟩
        obtain rfl:W0=w7:=hw7.symm
        clear HC
        obtain⟨ca0,cb0,cc0,cd0,fa0,fb0,fc0,fd0⟩:=HQ.out _ _ _ _ _ R0.out
        have cs0:W0.cell? ⟨gs,2*j,none⟩=some (.int .i64 (sx:Nat)):=by rw[cell_of_row _ _ _ _ _ _ Z0.out.srow];exact HCsx.out
        have cm0:W0.cell? ⟨gm,sx,none⟩=some (.int .u32 x):=by rw[Z0.out.mcell _ hsx];rw[Hx.out]
        go_wp2_with fail
        refine wRh 16 lK (by kernel_rfl) ?_
        simp only[tU,tJ,dJ,dY]
        repeat(go_big_quiet_step (fail))
        refine wqN ?_
        go_wp2_with fail
        obtain⟨W1,hWn⟩:∃X,X=(W0.setCell ⟨gv,a,none⟩ (.int .u32 ((A0+B0+x)%4294967296))).drew:=⟨_,rfl⟩
        rw[←hWn]
        have R1':aE W1 gv .u32 ((put4 L a b c d A0 B0 C0 D0).set a ((A0+B0+x)%4294967296)) 177:=by rw[hWn];exact aE.setCell (show aE W0 gv .u32 _ _ from R0.out) a _
        have Z1:Hid (yO w gs gm h M S W1):=by show yO w gs gm h M S _;rw[hWn];exact(Z0.out.set _ n0 n1 n2 n3).drews 1
        rw[OT L _ _ _ _ _ ab ac had]at R1'
        obtain⟨A1,hA1⟩:∃X,X=((A0+B0+x)%4294967296):=⟨_,rfl⟩
        rw[←hA1]at R1'
        try simp only[←hA1]
        have E1:Hid (A1=ad3 A0 B0 x):=hA1
        have R1:Hid _:=R1'
        clear hA1 hWn R1' R0 Z0 ca0 cb0 cc0 cd0 fa0 fb0 fc0 fd0 cs0 cm0
        obtain⟨ca1,cb1,cc1,cd1,fa1,fb1,fc1,fd1⟩:=HQ.out _ _ _ _ _ R1.out
        go_wp2_with fail
        refine wRl 8 (fun _=>True) [(.held,[0]),(.exact,[1,2,3,4,5,6,7]),(.tail,[8]),(.held,[9]),(.tail,[10])] lK (by kernel_rfl) trivial ?_
        simp only[iX,oS]
        repeat(go_big_quiet_step (fail))
        refine wqN ?_
        repeat(go_big_quiet_step (fail))
        refine wqN ?_
        go_wp2_with fail
        refine(afJ _ _ (iY _ _)).mono ?_
        rintro e W1x ⟨rfl,d1,hWx⟩
        have R1x:aE W1x gv .u32 (put4 L a b c d A1 B0 C0 D0) 177:=by rw[hWx];exact R1.out
        have Z1x:Hid (yO w gs gm h M S W1x):=by show yO w gs gm h M S _;rw[hWx];exact(Z1.out.drews 1).drews d1
        have hy1:∃v,W1x.cell? ⟨gv,d,none⟩=some v:=⟨_,R1x.cell d (by rw[HLEN.out];omega)⟩
        obtain⟨v1,hv1⟩:=hy1
        have fx1:W1x.frozen? ⟨gv,d,none⟩=false:=R1x.frozen d
        have Rx1:Hid _:=R1x
        clear hWx R1x
        go_wp2_with fail
        refine⟨trivial,?_⟩
        repeat(go_big_quiet_step (fail))
        refine wqN ?_
        go_wp2_with fail
        refine⟨trivial,dV ?_⟩
        obtain⟨W2,hWn⟩:∃X,X=W1x.setCell ⟨gv,d,none⟩ (.int .u32 (rl 16 (xr D0 A1))):=⟨_,rfl⟩
        rw[←hWn]
        have R2':aE W2 gv .u32 ((put4 L a b c d A1 B0 C0 D0).set d (rl 16 (xr D0 A1))) 177:=by rw[hWn];exact aE.setCell (show aE W1x gv .u32 _ _ from Rx1.out) d _
        have Z2:Hid (yO w gs gm h M S W2):=by show yO w gs gm h M S _;rw[hWn];exact Z1x.out.set _ n0 n1 n2 n3
        clear Rx1 Z1x hv1 fx1
        rw[OW L _ _ _ _ _]at R2'
        obtain⟨D2,hD2⟩:∃X,X=(rl 16 (xr D0 A1)):=⟨_,rfl⟩
        rw[←hD2]at R2'
        try simp only[←hD2]
        have E2:Hid (D2=rl 16 (xr D0 A1)):=hD2
        have R2:Hid _:=R2'
        clear hD2 hWn R2' R1 Z1 ca1 cb1 cc1 cd1 fa1 fb1 fc1 fd1
        obtain⟨ca2,cb2,cc2,cd2,fa2,fb2,fc2,fd2⟩:=HQ.out _ _ _ _ _ R2.out
        go_wp2_with fail
        refine wRh 8 lK (by kernel_rfl) ?_
        simp only[tU,tJ,dJ,dY]
        repeat(go_big_quiet_step (fail))
        refine wqN ?_
        go_wp2_with fail
        obtain⟨W3,hWn⟩:∃X,X=(W2.setCell ⟨gv,c,none⟩ (.int .u32 ((C0+D2)%4294967296))).drew:=⟨_,rfl⟩
        rw[←hWn]
        have R3':aE W3 gv .u32 ((put4 L a b c d A1 B0 C0 D2).set c ((C0+D2)%4294967296)) 177:=by rw[hWn];exact aE.setCell (show aE W2 gv .u32 _ _ from R2.out) c _
        have Z3:Hid (yO w gs gm h M S W3):=by show yO w gs gm h M S _;rw[hWn];exact(Z2.out.set _ n0 n1 n2 n3).drews 1
        rw[OV L _ _ _ _ _ cd]at R3'
        obtain⟨C3,hC3⟩:∃X,X=((C0+D2)%4294967296):=⟨_,rfl⟩
        rw[←hC3]at R3'
        try simp only[←hC3]
        have E3:Hid (C3=ad C0 D2):=hC3
        have R3:Hid _:=R3'
        clear hC3 hWn R3' R2 Z2 ca2 cb2 cc2 cd2 fa2 fb2 fc2 fd2
        obtain⟨ca3,cb3,cc3,cd3,fa3,fb3,fc3,fd3⟩:=HQ.out _ _ _ _ _ R3.out
        go_wp2_with fail
        refine wRl 8 (fun _=>True) [(.held,[0]),(.exact,[1,2,3,4,5,6,7]),(.tail,[8]),(.held,[9]),(.tail,[10])] lK (by kernel_rfl) trivial ?_
        simp only[iX,oS]
        repeat(go_big_quiet_step (fail))
        refine wqN ?_
        repeat(go_big_quiet_step (fail))
        refine wqN ?_
        go_wp2_with fail
        refine(afI _ _ (iY _ _)).mono ?_
        rintro e W3x ⟨rfl,d3,hWx⟩
        have R3x:aE W3x gv .u32 (put4 L a b c d A1 B0 C3 D2) 177:=by rw[hWx];exact R3.out
        have Z3x:Hid (yO w gs gm h M S W3x):=by show yO w gs gm h M S _;rw[hWx];exact(Z3.out.drews 1).drews d3
        have hy3:∃v,W3x.cell? ⟨gv,b,none⟩=some v:=⟨_,R3x.cell b (by rw[HLEN.out];omega)⟩
        obtain⟨v3,hv3⟩:=hy3
        have fx3:W3x.frozen? ⟨gv,b,none⟩=false:=R3x.frozen b
        have Rx3:Hid _:=R3x
        clear hWx R3x
        go_wp2_with fail
        refine⟨trivial,?_⟩
        repeat(go_big_quiet_step (fail))
        refine wqN ?_
        go_wp2_with fail
        refine⟨trivial,dV ?_⟩
        obtain⟨W4,hWn⟩:∃X,X=W3x.setCell ⟨gv,b,none⟩ (.int .u32 (rl 20 (xr B0 C3))):=⟨_,rfl⟩
        rw[←hWn]
        have R4':aE W4 gv .u32 ((put4 L a b c d A1 B0 C3 D2).set b (rl 20 (xr B0 C3))) 177:=by rw[hWn];exact aE.setCell (show aE W3x gv .u32 _ _ from Rx3.out) b _
        have Z4:Hid (yO w gs gm h M S W4):=by show yO w gs gm h M S _;rw[hWn];exact Z3x.out.set _ n0 n1 n2 n3
        clear Rx3 Z3x hv3 fx3
        rw[OU L _ _ _ _ _ bc bd]at R4'
        obtain⟨B4,hB4⟩:∃X,X=(rl 20 (xr B0 C3)):=⟨_,rfl⟩
        rw[←hB4]at R4'
        try simp only[←hB4]
        have E4:Hid (B4=rl 20 (xr B0 C3)):=hB4
        have R4:Hid _:=R4'
        clear hB4 hWn R4' R3 Z3 ca3 cb3 cc3 cd3 fa3 fb3 fc3 fd3
        obtain⟨ca4,cb4,cc4,cd4,fa4,fb4,fc4,fd4⟩:=HQ.out _ _ _ _ _ R4.out
        have cs4:W4.cell? ⟨gs,2*j+1,none⟩=some (.int .i64 (sy:Nat)):=by rw[cell_of_row _ _ _ _ _ _ Z4.out.srow];exact HCsy.out
        have cm4:W4.cell? ⟨gm,sy,none⟩=some (.int .u32 y):=by rw[Z4.out.mcell _ hsy];rw[Hy.out]
        go_wp2_with fail
        refine wRh 17 lK (by kernel_rfl) ?_
        simp only[tU,tJ,dJ,dY]
        repeat(go_big_quiet_step (fail))
        refine wqN ?_
        go_wp2_with fail
        obtain⟨W5,hWn⟩:∃X,X=(W4.setCell ⟨gv,a,none⟩ (.int .u32 ((A1+B4+y)%4294967296))).drew:=⟨_,rfl⟩
        rw[←hWn]
        have R5':aE W5 gv .u32 ((put4 L a b c d A1 B4 C3 D2).set a ((A1+B4+y)%4294967296)) 177:=by rw[hWn];exact aE.setCell (show aE W4 gv .u32 _ _ from R4.out) a _
        have Z5:Hid (yO w gs gm h M S W5):=by show yO w gs gm h M S _;rw[hWn];exact(Z4.out.set _ n0 n1 n2 n3).drews 1
        rw[OT L _ _ _ _ _ ab ac had]at R5'
        obtain⟨A5,hA5⟩:∃X,X=((A1+B4+y)%4294967296):=⟨_,rfl⟩
        rw[←hA5]at R5'
        try simp only[←hA5]
        have E5:Hid (A5=ad3 A1 B4 y):=hA5
        have R5:Hid _:=R5'
        clear hA5 hWn R5' R4 Z4 ca4 cb4 cc4 cd4 fa4 fb4 fc4 fd4 cs4 cm4
        obtain⟨ca5,cb5,cc5,cd5,fa5,fb5,fc5,fd5⟩:=HQ.out _ _ _ _ _ R5.out
        go_wp2_with fail
        refine wRl 8 (fun _=>True) [(.held,[0]),(.exact,[1,2,3,4,5,6,7]),(.tail,[8]),(.held,[9]),(.tail,[10])] lK (by kernel_rfl) trivial ?_
        simp only[iX,oS]
        repeat(go_big_quiet_step (fail))
        refine wqN ?_
        repeat(go_big_quiet_step (fail))
        refine wqN ?_
        go_wp2_with fail
        refine(ah4 _ _ (iY _ _)).mono ?_
        rintro e W5x ⟨rfl,d5,hWx⟩
        have R5x:aE W5x gv .u32 (put4 L a b c d A5 B4 C3 D2) 177:=by rw[hWx];exact R5.out
        have Z5x:Hid (yO w gs gm h M S W5x):=by show yO w gs gm h M S _;rw[hWx];exact(Z5.out.drews 1).drews d5
        have hy5:∃v,W5x.cell? ⟨gv,d,none⟩=some v:=⟨_,R5x.cell d (by rw[HLEN.out];omega)⟩
        obtain⟨v5,hv5⟩:=hy5
        have fx5:W5x.frozen? ⟨gv,d,none⟩=false:=R5x.frozen d
        have Rx5:Hid _:=R5x
        clear hWx R5x
        go_wp2_with fail
        refine⟨trivial,?_⟩
        repeat(go_big_quiet_step (fail))
        refine wqN ?_
        go_wp2_with fail
        refine⟨trivial,dV ?_⟩
        obtain⟨W6,hWn⟩:∃X,X=W5x.setCell ⟨gv,d,none⟩ (.int .u32 (rl 24 (xr D2 A5))):=⟨_,rfl⟩
        rw[←hWn]
        have R6':aE W6 gv .u32 ((put4 L a b c d A5 B4 C3 D2).set d (rl 24 (xr D2 A5))) 177:=by rw[hWn];exact aE.setCell (show aE W5x gv .u32 _ _ from Rx5.out) d _
        have Z6:Hid (yO w gs gm h M S W6):=by show yO w gs gm h M S _;rw[hWn];exact Z5x.out.set _ n0 n1 n2 n3
        clear Rx5 Z5x hv5 fx5
        rw[OW L _ _ _ _ _]at R6'
        obtain⟨D6,hD6⟩:∃X,X=(rl 24 (xr D2 A5)):=⟨_,rfl⟩
        rw[←hD6]at R6'
        try simp only[←hD6]
        have E6:Hid (D6=rl 24 (xr D2 A5)):=hD6
        have R6:Hid _:=R6'
        clear hD6 hWn R6' R5 Z5 ca5 cb5 cc5 cd5 fa5 fb5 fc5 fd5
        obtain⟨ca6,cb6,cc6,cd6,fa6,fb6,fc6,fd6⟩:=HQ.out _ _ _ _ _ R6.out
        go_wp2_with fail
        refine wRh 8 lK (by kernel_rfl) ?_
        simp only[tU,tJ,dJ,dY]
        repeat(go_big_quiet_step (fail))
        refine wqN ?_
        go_wp2_with fail
        obtain⟨W7,hWn⟩:∃X,X=(W6.setCell ⟨gv,c,none⟩ (.int .u32 ((C3+D6)%4294967296))).drew:=⟨_,rfl⟩
        rw[←hWn]
        have R7':aE W7 gv .u32 ((put4 L a b c d A5 B4 C3 D6).set c ((C3+D6)%4294967296)) 177:=by rw[hWn];exact aE.setCell (show aE W6 gv .u32 _ _ from R6.out) c _
        have Z7:Hid (yO w gs gm h M S W7):=by show yO w gs gm h M S _;rw[hWn];exact(Z6.out.set _ n0 n1 n2 n3).drews 1
        rw[OV L _ _ _ _ _ cd]at R7'
        obtain⟨C7,hC7⟩:∃X,X=((C3+D6)%4294967296):=⟨_,rfl⟩
        rw[←hC7]at R7'
        try simp only[←hC7]
        have E7:Hid (C7=ad C3 D6):=hC7
        have R7:Hid _:=R7'
        clear hC7 hWn R7' R6 Z6 ca6 cb6 cc6 cd6 fa6 fb6 fc6 fd6
        obtain⟨ca7,cb7,cc7,cd7,fa7,fb7,fc7,fd7⟩:=HQ.out _ _ _ _ _ R7.out
        go_wp2_with fail
        refine wRl 8 (fun _=>True) [(.held,[0]),(.exact,[1,2,3,4,5,6,7]),(.tail,[8]),(.held,[9]),(.tail,[10])] lK (by kernel_rfl) trivial ?_
        simp only[iX,oS]
        repeat(go_big_quiet_step (fail))
        refine wqN ?_
        repeat(go_big_quiet_step (fail))
        refine wqN ?_
        go_wp2_with fail
        refine(ah3 _ _ (iY _ _)).mono ?_
        rintro e W7x ⟨rfl,d7,hWx⟩
        have R7x:aE W7x gv .u32 (put4 L a b c d A5 B4 C7 D6) 177:=by rw[hWx];exact R7.out
        have Z7x:Hid (yO w gs gm h M S W7x):=by show yO w gs gm h M S _;rw[hWx];exact(Z7.out.drews 1).drews d7
        have hy7:∃v,W7x.cell? ⟨gv,b,none⟩=some v:=⟨_,R7x.cell b (by rw[HLEN.out];omega)⟩
        obtain⟨v7,hv7⟩:=hy7
        have fx7:W7x.frozen? ⟨gv,b,none⟩=false:=R7x.frozen b
        have Rx7:Hid _:=R7x
        clear hWx R7x
        go_wp2_with fail
        refine⟨trivial,?_⟩
        repeat(go_big_quiet_step (fail))
        refine wqN ?_
        go_wp2_with fail
        refine⟨trivial,dV ?_⟩
        obtain⟨W8,hWn⟩:∃X,X=W7x.setCell ⟨gv,b,none⟩ (.int .u32 (rl 25 (xr B4 C7))):=⟨_,rfl⟩
        rw[←hWn]
        have R8':aE W8 gv .u32 ((put4 L a b c d A5 B4 C7 D6).set b (rl 25 (xr B4 C7))) 177:=by rw[hWn];exact aE.setCell (show aE W7x gv .u32 _ _ from Rx7.out) b _
        have Z8:Hid (yO w gs gm h M S W8):=by show yO w gs gm h M S _;rw[hWn];exact Z7x.out.set _ n0 n1 n2 n3
        clear Rx7 Z7x hv7 fx7
        rw[OU L _ _ _ _ _ bc bd]at R8'
        obtain⟨B8,hB8⟩:∃X,X=(rl 25 (xr B4 C7)):=⟨_,rfl⟩
        rw[←hB8]at R8'
        try simp only[←hB8]
        have E8:Hid (B8=rl 25 (xr B4 C7)):=hB8
        have R8:Hid _:=R8'
        clear hB8 hWn R8' R7 Z7 ca7 cb7 cc7 cd7 fa7 fb7 fc7 fd7
        have hfin:put4 L a b c d A5 B8 C7 D6=sS L a b c d x y:=by
         rw[HM.out]
         have e1:=E1.out
         have e2:=E2.out
         have e3:=E3.out
         have e4:=E4.out
         have e5:=E5.out
         have e6:=E6.out
         have e7:=E7.out
         have e8:=E8.out
         subst e1 e2 e3 e4 e5 e6 e7 e8
         rfl
        have R9:Hid (W8.heap[gv]? =some (.cells (Iv .u32 (sS L a b c d x y)) 177)):=by show _=_;rw[←hfin];exact R8.out
        have hsz8:Hid (gs<W8.heap.size):=(Array.getElem?_eq_some_iff.1 Z8.out.srow).1
        clear hfin R8 E1 E2 E3 E4 E5 E6 E7 E8 HM
        go_wp2
        go_roundw
        case rel=>exact⟨j+1,by omega,by go_num,by rw[HLJ.out _ rfl];exact R9.out,hsz8.out,Z8.out⟩
        case measure=>simp[intOf];omega
       ·obtain rfl:j=8:=by omega
        obtain⟨X,hX⟩:∃x,jN VR M k 8=x:=⟨_,rfl⟩
        rw[hX]at R0'
        have HX:Hid (dI V0 M (k+1)=X):=HLN.out X hX.symm
        have RX:Hid _:=R0'
        have ZX:Hid _:=Z0'
        clear R0' Z0' hX HLN
        go_wp2
        go_roundw
        case rel=>exact⟨k+1,by omega,by go_num,ZX.out.hrow,ZX.out.rrow,ZX.out.mcell,by omega,by rw[HX.out];exact RX.out,ZX.out.bel⟩
        case measure=>simp[intOf];omega
     ·obtain rfl:k=10:=by omega
      have hRl:(dI V0 M 10).length=16:=by rw[jW,HV.out.1]
      have hRa:Hid (bJ (dI V0 M 10)):=uL HV.out.2 M 10
      obtain⟨R,hR⟩:∃x,dI V0 M 10=x:=⟨_,rfl⟩
      have HBF3:Hid (∀x,(List.range 8).map (oE h R)=x→x=Bf):=fun x hx=>by rw[←hx];exact HBF2.out R hR
      rw[hR]at M3 hRl hRa
      clear hR HBF2
      obtain⟨WX,rfl⟩:∃X,X=wr:=⟨_,rfl⟩
      have N0:Hid (WX.heap[w.heap.size]? =some (.cells (Iv .u32 (nG h R 0)) 154)):=M0
      have N1:Hid _:=M1
      have N3:Hid _:=M3
      have NB:Hid _:=MB
      clear M0 M1 MC M3 MB
      go_wp2_with fail
      go_loopw [169] (fun i wr=>∃j:Nat,j≤8∧i=.int .i64 j∧wr.heap[w.heap.size]? =some (.cells (Iv .u32 (nG h R j)) 154)∧wr.heap[w.heap.size+1]? =some (.cells (Iv .u32 (aA 8)) 154)∧wr.heap[gv]? =some (.cells (Iv .u32 R) 177)∧Below w.heap.size w wr) (fun i _=>8 - (intOf i).toNat)
      case atStart=>exact⟨0,by omega,rfl,N0.out,N1.out,N3.out,NB.out⟩
      case round=>
       obtain⟨j,hj,rfl,M0,M1,M3,MB⟩:=hrel
       clear N0 N1 N3 NB
       have hFl:=AO h R j hh hj
       by_cases hlt:j<8
       ·have HFS:Hid (∀x,x=oE h R j→(nG h R j).set j x=nG h R (j+1)):=fun x hx=>by rw[hx,IN h R j hh hlt]
        have HFA:Hid (xr (xr (aM h j) (aM R j)) (aM R (j+8))=oE h R j):=adV _ _ _ (h32 j) (hRa.out j) (hRa.out (j+8))
        have cs:wr.cell? ⟨w.heap.size,j,none⟩=some (.int .u32 (aM h j)):=by rw[←QD h R j hh hlt];exact aE.cell (show aE wr _ .u32 (nG h R j) _ from M0) j (by omega)
        have fs:wr.frozen? ⟨w.heap.size,j,none⟩=false:=frozen_of_row _ _ _ _ _ M0
        have c0:wr.cell? ⟨gv,j,none⟩=some (.int .u32 (aM R j)):=aE.cell (show aE wr gv .u32 R _ from M3) j (by omega)
        have c8:wr.cell? ⟨gv,j+8,none⟩=some (.int .u32 (aM R (j+8))):=aE.cell (show aE wr gv .u32 R _ from M3) (j+8) (by omega)
        generalize nG h R j=F at*
        generalize oE h R j=fx at*
        generalize aM h j=x at*
        generalize aM R j=y at*
        generalize aM R (j+8)=z at*
        have i8:(j:Int)+8<16:=by omega
        have N0:Hid _:=M0
        have N1:Hid _:=M1
        have N3:Hid _:=M3
        have NB:Hid _:=MB
        clear M0 M1 M3 MB
        go_wp2_with fail
        refine wRh 13 lK (by kernel_rfl) ?_
        simp only[tU,tJ,dJ,dY]
        repeat(go_big_quiet_step (fail))
        refine wqN ?_
        go_wp2_with fail
        go_roundw
        case rel=>
         refine⟨j+1,by omega,by go_num,?_,?_,?_,?_⟩
         ·rw[←HFS.out (xr (xr x y) z) HFA.out]
          exact aE.setCell (show aE wr _ .u32 F _ from N0.out) j _
         ·exact(heap_setCell_other _ _ _ _ (by simp)).trans N1.out
         ·exact(heap_setCell_other _ _ _ _ (by simp;omega)).trans N3.out
         ·exact bDr (Below.setCell NB.out (by simp) _) 1
        case measure=>simp[intOf];omega
       ·obtain rfl:j=8:=by omega
        rw[IM h R hh,HBF3.out _ rfl]at M0
        have N0:Hid _:=M0
        have N1:Hid _:=M1
        have NB:Hid _:=MB
        clear M0 M1 M3 MB HBF3
        go_wp2_with(first
         | refine wpLr rfl 154 _ rfl w.heap.size rfl _ (Iv .u32 Bf) _ _ N0.out underlying154 rfl (hi8.out Bf hBf) ?_
         | refine wpPr rfl 154 _ _ rfl (w.heap.size+1) (Iv .u32 Bf) rfl rfl _ _ N1.out (hi8.out Bf hBf) ?hs (aG _ _) ?_)
        case hs=>rw[aD,aD,hBf];rfl
        intro W9 hP9
        go_wp2
        exact bodyPost_ret (v:=.agg (Iv .u32 Bf)) (results_cell_row rfl _ _ _ _ (Iv .u32 Bf) _ _ rfl hP9.here underlying154 rfl (hi8.out Bf hBf)) rfl ⟨rfl,hP9.below _ _ NB.out (by omega)⟩
theorem sW:(prog.info? 5).map (fun i=>(i.zero,i.size,i.bytes))=some (some (.int .u8 0),1,1):=by kernel_rfl
def iI (ws:LI) (i:Nat):Int:=aM ws (i / 4) / 256^(i%4)%256
def bytesOf (ws:LI) (n:Nat):LI:=(List.range n).map (iI ws)
theorem jX (ws:LI) (n:Nat):(bytesOf ws n).length=n:=by simp[bytesOf]
theorem NS (ws:LI) (k:Nat):bytesOf ws (4*(k+1))=bytesOf ws (4*k)++[aM ws k%256]++[aM ws k / 256%256]++[aM ws k / 65536%256]++[aM ws k / 16777216%256]:=by
 have e0:iI ws (4*k)=aM ws k%256:=by unfold iI;rw[show 4*k / 4=k by omega,show 4*k%4=0 by omega];simp
 have e1:iI ws (4*k+1)=aM ws k / 256%256:=by unfold iI;rw[show(4*k+1) / 4=k by omega,show(4*k+1)%4=1 by omega];simp
 have e2:iI ws (4*k+2)=aM ws k / 65536%256:=by unfold iI;rw[show(4*k+2) / 4=k by omega,show(4*k+2)%4=2 by omega];simp
 have e3:iI ws (4*k+3)=aM ws k / 16777216%256:=by unfold iI;rw[show(4*k+3) / 4=k by omega,show(4*k+3)%4=3 by omega];simp
 rw[←e0,←e1,←e2,←e3]
 simp only[bytesOf,show 4*(k+1)=4*k+1+1+1+1 by omega,List.range_succ,List.map_append,List.map_cons,List.map_nil]
theorem xO (ws:LI) (n:Nat) (hn:ws.length=n) (h32:bJ ws) (hn2:n≤100000) (a:Option Addr) (cap:Nat) (w:World) (hr:RdK .u32 w a ws):
 Calls prog 69 #[.slice a n cap] w fun e w'=>∃v,e=.returned v∧bM .u8 5 w.heap.size w' v (bytesOf ws (4*n))∧Below w.heap.size w w':=by
 go_enter func69,ntmps69
 go_wp2
 go_loopw [3,10] (fun v i wr=>∃k:Nat,k≤n∧i=.int .i64 k∧bM .u8 5 w.heap.size wr v (bytesOf ws (4*k))∧Below w.heap.size w wr) (fun _ i _=>n - (intOf i).toNat)
 case atStart=>
  exact⟨0,Nat.zero_le _,rfl,bM.nil w (nQ _),(Below.refl _ _).alloc (nQ _) _⟩
 case round=>
  obtain⟨k,hk,rfl,hown,hbel⟩:=hrel
  have HS:Hid _:=NS ws k
  have HL:Hid ((bytesOf ws (4*k)).length=4*k):=jX _ _
  have hsz:=hbel.size
  by_cases hlt:k<n
  ·obtain⟨WX,rfl⟩:∃X,X=wr:=⟨_,rfl⟩
   obtain⟨b,o,rfl,h2⟩:=hr k (by omega)
   have hc:WX.cell? ⟨b,o+k,none⟩=some (.int .u32 (aM ws k)):=(hbel.cell (p:=⟨b,o+k,none⟩) (wJ _ _ h2)).trans h2
   have hx:gG (aM ws k):=h32 k
   generalize aM ws k=x at*
   generalize bytesOf ws (4*k)=L at*
   obtain⟨x0,x1⟩:=hx
   clear hr h2
   go_wp2
   refine wp_loop_rounds 5 ?_
   rw[rdS]
   go_wp2_with(at_builtin;refine cK .u8 22 5 1 underlying22 sW (by decide) rfl (.tmp 18) (.tmp 22) rfl w.heap.size w WX _ (L) _ rfl rfl hown hbel hsz (by have:=HL.out;simp;omega) ?_;intro v0 w0 hown0 hbel0 _ _)
   have hown0':=nM hown0 (y:=x%256) (by omega)
   have hsz0:=hbel0.size
   rw[rdS]
   go_wp2_with(at_builtin;refine cK .u8 22 5 1 underlying22 sW (by decide) rfl (.tmp 18) (.tmp 22) rfl w.heap.size w w0 _ (L++[x%256]) _ rfl rfl hown0' hbel0 hsz0 (by have:=HL.out;simp;omega) ?_;intro v1 w1 hown1 hbel1 _ _)
   have hown1':=nM hown1 (y:=x / 256%256) (by omega)
   have hsz1:=hbel1.size
   rw[rdS]
   go_wp2_with(at_builtin;refine cK .u8 22 5 1 underlying22 sW (by decide) rfl (.tmp 18) (.tmp 22) rfl w.heap.size w w1 _ (L++[x%256]++[x / 256%256]) _ rfl rfl hown1' hbel1 hsz1 (by have:=HL.out;simp;omega) ?_;intro v2 w2 hown2 hbel2 _ _)
   have hown2':=nM hown2 (y:=x / 65536%256) (by omega)
   have hsz2:=hbel2.size
   rw[rdS]
   go_wp2_with(at_builtin;refine cK .u8 22 5 1 underlying22 sW (by decide) rfl (.tmp 18) (.tmp 22) rfl w.heap.size w w2 _ (L++[x%256]++[x / 256%256]++[x / 65536%256]) _ rfl rfl hown2' hbel2 hsz2 (by have:=HL.out;simp;omega) ?_;intro v3 w3 hown3 hbel3 _ _)
   have hown3':=nM hown3 (y:=x / 16777216%256) (by omega)
   have hsz3:=hbel3.size
   rw[rdS]
   go_wp2_with fail
   go_roundw
   case rel=>exact⟨k+1,by omega,by go_num,by rw[HS.out];exact hown3',hbel3⟩
   case measure=>simp[intOf];omega
  ·clear hr
   go_wp2
   go_ret
   obtain rfl:k=n:=by omega
   exact⟨_,rfl,hown,hbel⟩
theorem pP (g off n cap:Nat) (te:TypeId) (l:LI) (x:Int) (w:World)
 (hg:w.heap[g]? =some (.cells (Iv .u8 l) te)) (hl:off+n≤l.length) (hn:n≤4) (hx:0≤x):
 Calls prog 96 #[.slice (some ⟨g,off,none⟩) n cap,.int .u32 x] w fun e w'=>
  e=.returned (.tuple #[])∧w'=w.setRow g (Iv .u8 (pF9 l off (fun i=>x / 256^i%256) n)):=by
 go_enter func96,ntmps96
 go_wp2
 go_loopw [7] (fun i wr=>∃k:Nat,k≤n∧i=.int .i64 k∧wr=w.setRow g (Iv .u8 (pF9 l off (fun i=>x / 256^i%256) k))) (fun i _=>n - (intOf i).toNat)
 case atStart=>
  refine⟨0,Nat.zero_le _,rfl,?_⟩
  rw[cR,iE w g _ _ _ hg]
 case round=>
  obtain⟨k,hk,rfl,rfl⟩:=hrel
  by_cases hlt:k<n
  ·have ho:∃v,(w.setRow g (Iv .u8 (pF9 l off (fun i=>x / 256^i%256) k))).cell? ⟨g,off+k,none⟩=some v:=by
    rw[eS _ _ _ _ _ _ _ hg]
    exact nD _ _ _ (by rw[aS _ _ _ _ (by omega)];omega)
   obtain⟨v,hv⟩:=ho
   have hf:(w.setRow g (Iv .u8 (pF9 l off (fun i=>x / 256^i%256) k))).frozen? ⟨g,off+k,none⟩=false:=by rw[iJ];exact frozen_of_row _ _ _ _ _ hg
   go_wp2
   go_roundw
   case rel=>exact⟨k+1,by omega,by go_num,by rw[aK,bZ,ajR,cP l off (fun i=>x / 256^i%256) k (by omega)]⟩
   case measure=>simp[intOf];omega
  ·obtain rfl:k=n:=by omega
   go_wp2
   go_end0
   exact⟨rfl,rfl⟩
theorem dM:∀W,(zeroValue 25).run prog W=.ok (.agg (Iv .u8 (aA 32))) W:=fun W=>by kernel_rfl
theorem iD:(prog.info? 25).map (·.size)=some 32:=by kernel_rfl
theorem aaT (ws:LI):pF9 (aA 32) 0 (iI ws) (4*8)=bytesOf ws 32:=by
 unfold pF9 bytesOf aA
 simp
theorem ZM {w:World} {g:Nat} {h:LI} {t:Int} {b:LI} {f:Int} {ty:TypeId} (hg:w.heap[g]? =some (.cells (dS h t b f) ty)) (hh:h.length=8):w.rangeAt g 0 (h.map (Value.int .u32)):=by
 have e:((HV h t b f).drop 0).take 8=h.map (Value.int .u32):=by
  unfold HV
  rw[dY,List.take_append_of_le_length (by simp;omega),List.take_of_length_le (by simp;omega)]
 rw[←e]
 exact gZ hg 0 8
theorem T8 (h b:LI) (t f:Nat) (w:World) (hh:h.length=8) (hb:b.length=64) (h32:bJ h) (hbb:aC (b.take f)) (hf:f≤64) (ht63:t+f<9223372036854775808) (ht:cN w) (Wf:LI) (HW:Hid (jS h (gW (b.take f)) (t+f) true=Wf)) (hWl:Wf.length=8) (hW32:bJ Wf) (Bo:LI) (HBO:Hid (∀x,bytesOf Wf 32=x→x=Bo)) (hBo:Bo.length=32):
 Calls prog 80 #[.agg (dS h t b f)] w fun e w'=>e=.returned (.agg (Iv .u8 Bo))∧Below w.heap.size w w':=by
 have hzb:=dM
 have hiS:Hid (∀(h':LI) (t' f':Int) (b':LI),h'.length=8→b'.length=64→(prog.info? 156).map (·.size)=some (dS h' t' b' f').size):=fun h' t' f' b' hh' hb'=>by rw[fE h' t' b' f' hh' hb'];exact DB
 have HT:Hid _:=ht
 clear ht
 obtain⟨W,hW,g0,g1,hs,hBW⟩:=iU w (.cells (dS h t b f) 156) (.cells (Iv .u8 (aA 32)) 25)
 have G0:Hid _:=g0
 have G1:Hid _:=g1
 have HBW:Hid _:=hBW
 clear g0 g1 hBW
 go_enter func80,ntmps80
 go_wp2_with(refine wpLr rfl 156 _ rfl w.heap.size rfl _ (dS h t b f) _ _ G0.out underlying156 rfl (hiS.out _ _ _ _ hh hb) ?_)
 clear hW
 refine(AI h b t f true W hh hb h32 hbb hf ht63 (HT.out.later HBW.out (nQ _)) Wf HW hWl).mono ?_
 obtain⟨t2,ht2⟩:∃x,x=t+f:=⟨_,rfl⟩
 rw[←ht2]
 clear ht2
 rintro e w1 ⟨rfl,hb1⟩
 have K0:Hid _:=(hb1.block w.heap.size (by omega)).trans G0.out
 have K1:Hid _:=(hb1.block (w.heap.size+1) (by omega)).trans G1.out
 have KB:Hid _:=HBW.out.trans (hb1.mono (by omega))
 have hs1:w.heap.size+1<w1.heap.size:=by have:=hb1.size;omega
 clear hb1 G0 G1 HBW
 go_wp2_with(refine wpPr rfl 156 _ _ rfl w.heap.size (dS Wf t2 b 0) rfl rfl _ _ K0.out (hiS.out _ _ _ _ hWl hb) ?hs (pZ _ _ _ _) ?_)
 case hs=>rw[fE _ _ _ _ hh hb,fE _ _ _ _ hWl hb]
 intro w2 hP2
 have HL0:Hid _:=ZM ((hAO w2 (.cells (Iv .u8 (aA 32)) 25) (by have:=hP2.size;omega)).trans hP2.here) hWl
 have HL1:Hid _:=(hAO w2 (.cells (Iv .u8 (aA 32)) 25) (by have:=hP2.size;omega)).trans ((hP2.far _ (by omega)).trans K1.out)
 have HL2:Hid ((w2.alloc (.cells (Iv .u8 (aA 32)) 25)).heap[w2.heap.size]? =some (.cells (Iv .u8 (aA 32)) 25)):=hAN _ _
 have HLB:Hid (Below w.heap.size w (w2.alloc (.cells (Iv .u8 (aA 32)) 25))):=(hP2.below _ _ KB.out (nQ _)).alloc (by have:=hP2.size;omega) _
 have hs2:w.heap.size+1<w2.heap.size:=by have:=hP2.size;omega
 clear hP2 K0 K1 KB
 have hi8:Hid ((prog.info? 154).map (·.size)=some (Wf.map (Value.int .u32)).length):=by show _=_;rw[lU,hWl];exact XF
 go_wp2_with(refine wpList_load_mid rfl 154 _ rfl w.heap.size 0 rfl (Wf.map (Value.int .u32)) _ HL0.out underlying154 rfl hi8.out ?_)
 generalize w2.heap.size=go at*
 go_loopw [10] (fun i wr=>∃k:Nat,k≤8∧i=.int .i64 k∧wr.heap[w.heap.size+1]? =some (.cells (Iv .u8 (aA 32)) 25)∧wr.heap[go]? =some (.cells (Iv .u8 (pF9 (aA 32) 0 (iI Wf) (4*k))) 25)∧Below w.heap.size w wr) (fun i _=>8 - (intOf i).toNat)
 case atStart=>exact⟨0,by omega,rfl,HL1.out,by rw[Nat.mul_zero,cR];exact HL2.out,HLB.out⟩
 case round=>
  obtain⟨k,hk,rfl,M1,M2,MB⟩:=hrel
  clear HL0 HL1 HL2 HLB
  by_cases hlt:k<8
  ·have hRk:∀wx,(Instr.index 154 (.agg (Wf.map (Value.int .u32)).toArray) (.int .i64 (k:Int))).run prog wx=.ok (.int .u32 (aM Wf k)) wx:=qT 154 32 8 .u32 Wf k underlying154 underlying32 (by kernel_rfl) hWl hlt
   have wR:gG (aM Wf k):=hW32 k
   have HS:Hid (pF9 (pF9 (aA 32) 0 (iI Wf) (4*k)) (4*k) (fun i=>aM Wf k / 256^i%256) 4=pF9 (aA 32) 0 (iI Wf) (4*(k+1))):=by
    show _=_
    rw[BO _ _ _ _ _ (by simp[aA];omega),Nat.mul_add]
    intro i hi
    rw[iI,show(4*k+i) / 4=k by omega,show(4*k+i)%4=i by omega]
   generalize aM Wf k=x at*
   obtain⟨x0,x1⟩:=wR
   have hk1:(k:Int)<8:=by omega
   have s1:(0:Int)≤4*(k:Int):=by omega
   have s2:4*(k:Int)≤4*(k:Int)+4:=by omega
   have s3:4*(k:Int)+4≤32:=by omega
   have s4:(0:Int)≤4*(k:Int)+4:=by omega
   have N1:Hid _:=M1
   have N2:Hid _:=M2
   have NB:Hid _:=MB
   clear M1 M2 MB
   go_wp2_with fail
   rw[show 4*k+4 - 4*k=4 by omega]
   refine(pP go (4*k) 4 _ 25 (pF9 (aA 32) 0 (iI Wf) (4*k)) x wr N2.out (by rw[aS _ _ _ _ (by simp[aA];omega)];simp[aA];omega) (by omega) (by omega)).mono ?_
   rintro e w6 ⟨rfl,hw6⟩
   rw[HS.out]at hw6
   have V1:Hid (w6.heap[w.heap.size+1]? =some (.cells (Iv .u8 (aA 32)) 25)):=by show _=_;rw[hw6];exact(cG _ _ _ _ (by omega)).trans N1.out
   have V2:Hid (w6.heap[go]? =some (.cells (Iv .u8 (pF9 (aA 32) 0 (iI Wf) (4*(k+1)))) 25)):=by show _=_;rw[hw6];exact setRow_heap _ _ _ _ _ _ N2.out
   have VB:Hid (Below w.heap.size w w6):=by show Below _ _ _;rw[hw6];exact aO NB.out _ (by omega) _
   clear hw6 N1 N2 NB HS
   go_wp2_with fail
   go_roundw
   case rel=>exact⟨k+1,by omega,by go_num,V1.out,V2.out,VB.out⟩
   case measure=>simp[intOf];omega
  ·obtain rfl:k=8:=by omega
   rw[aaT,HBO.out _ rfl]at M2
   have hi32:Hid ((prog.info? 25).map (·.size)=some (Iv .u8 Bo).size):=by show _=_;rw[aD,hBo];exact iD
   have N1:Hid _:=M1
   have N2:Hid _:=M2
   have NB:Hid _:=MB
   clear M1 M2 MB
   go_wp2_with(first
    | refine wpLr rfl 25 _ rfl go rfl _ (Iv .u8 Bo) _ _ N2.out underlying25 rfl hi32.out ?_
    | refine wpPr rfl 25 _ _ rfl (w.heap.size+1) (Iv .u8 Bo) rfl rfl _ _ N1.out hi32.out ?hs (aG _ _) ?_)
   case hs=>rw[aD,aD,hBo];rfl
   intro W9 hP9
   go_wp2
   exact bodyPost_ret (v:=.agg (Iv .u8 Bo)) (results_cell_row rfl _ _ _ _ (Iv .u8 Bo) _ _ rfl hP9.here underlying25 rfl hi32.out) rfl ⟨rfl,hP9.below _ _ NB.out (by omega)⟩
def uK (h0 D:LI):LI:=bytesOf (QA h0 D) 32
theorem sR (h0 D:LI):(uK h0 D).length=32:=jX _ _
theorem D9 (h0 D:LI):(QA h0 D).length=8:=rK _ _ _ _
theorem XA (h0 D:LI):bJ (QA h0 D):=JO _ _ _ _
theorem EB (h0 D h b:LI) (k t fn:Nat) (htk:t=64*k) (s:uF h0 D k fn h b) (hk:0<fn∨k=0) (hh0:h0.length=8) (h032:bJ h0) (hD:aC D) (hlen:D.length≤1000000000000) (w:World) (ht:cN w) (Bo:LI) (hBO:uK h0 D=Bo):
 Calls prog 80 #[.agg (dS h t b fn)] w fun e w'=>e=.returned (.agg (Iv .u8 Bo))∧Below w.heap.size w w':=
 T8 h b t fn w (by rw[s.words];exact iN h0 _ hh0 k) s.blk (by rw[s.words];exact DP h032 _ k) (s.bytes hD) s.fill (by have:=s.len;omega) ht (QA h0 D) (by rw[htk];exact s.last hk) (D9 _ _) (XA _ _) Bo (fun x hx=>by rw[←hx];exact hBO) (by rw[←hBO];exact sR _ _)
end Go.Proofs.YtmjccemdldidaaaGreatDoor
