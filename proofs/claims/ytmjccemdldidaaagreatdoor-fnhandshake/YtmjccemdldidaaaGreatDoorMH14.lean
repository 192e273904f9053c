import Derived.Test.YtmjccemdldidaaaGreatDoorMH13
import Derived.ShutString
import Derived.ChangeOld
import Derived.Below
namespace Go.Proofs.YtmjccemdldidaaaGreatDoor
open Go.RowKit
open Go.Proofs.Tryz
open Go.ChangeShapes Go.WideShapes Go.ChangeAt Go.RowKit
open Go renaming heap_alloc_new → hAN, heap_alloc_old → hAO, rounds_succ → rdS, wpList_load_row → wpLr, wpQuiet_nil → wqN
open Go.World renaming block_lt_of_cell? → wJ
open List renaming drop_succ_cons → dJ, drop_zero → dY, length_append → lQ, length_map → lU, replicate → rQ, take_succ_cons → tU, take_succ_eq_append_getElem → tQ, take_zero → tJ
open Nat renaming le_refl → nQ, lt_of_lt_of_le → nJ
set_option linter.unusedVariables false
set_option maxHeartbeats 2000000
set_option maxRecDepth 10000
structure uF (h0 D:LI) (k fn:Nat) (h b:LI):Prop where
 fill:fn≤64
 len:D.length=64*k+fn
 words:h=kA h0 D k
 blk:b.length=64
 same:b.take fn=D.drop (64*k)
theorem uF.start (h0 b:LI) (hb:b.length=64):uF h0 [] 0 0 h0 b:=⟨by omega,rfl,rfl,hb,by simp⟩
theorem uF.copied {h0 D h b:LI} {k fn:Nat} (s:uF h0 D k fn h b) (X:LI) (n:Nat) (hX:X.length=n) (hn:fn+n≤64):uF h0 (D++X) k (fn+n) h (b.take fn++(X++b.drop (fn+n))):=by
 have hl:=s.len
 have hbl:=s.blk
 refine⟨hn,by simp[hX];omega,?_,by simp[hX];omega,?_⟩
 ·rw[FB h0 D X k (by omega)]
  exact s.words
 ·rw[List.drop_append_of_le_length (by omega),←s.same,←List.append_assoc,List.take_append_of_le_length (by simp[hX];omega),List.take_of_length_le (by simp[hX];omega)]
theorem uF.squeezed {h0 D h b:LI} {k:Nat} (s:uF h0 D k 64 h b):uF h0 D (k+1) 0 (jS h (gW (b.take 64)) (64*k+64) false) b:=by
 have hl:=s.len
 refine⟨by omega,by omega,?_,s.blk,?_⟩
 ·have e:(D.drop (64*k)).take 64=b.take 64:=by
   rw[←s.same,List.take_take,Nat.min_self]
  rw[kA,e,←s.words]
  rfl
 ·rw[tJ,List.drop_eq_nil_of_le (by omega)]
theorem uF.last {h0 D h b:LI} {k fn:Nat} (s:uF h0 D k fn h b) (hk:0<fn∨k=0):jS h (gW (b.take fn)) (64*k+fn) true=QA h0 D:=by
 have hl:=s.len
 have hf:=s.fill
 have e:yR D.length=k:=by unfold yR;omega
 unfold QA
 rw[e,s.same,s.words,hl]
theorem uF.bytes {h0 D h b:LI} {k fn:Nat} (s:uF h0 D k fn h b) (hD:aC D):aC (b.take fn):=by rw[s.same];exact cE hD _
theorem V9 (zs:LI) (m:Nat) (hm:zs.length=m) (h64:m≤64):pF9 (rQ 16 0) 0 (aF zs) (min (m / 4+1) 16)=gW zs:=by
 apply List.ext_getElem?
 intro i
 rw[cX _ _ _ _ _ (by simp;omega)]
 simp only[gW,List.getElem?_map,List.getElem?_replicate]
 by_cases hi:i<16
 ·rw[List.getElem?_range hi]
  by_cases h1:i<min (m / 4+1) 16
  ·rw[if_pos (by omega)]
   rfl
  ·rw[if_neg (by omega),if_pos hi]
   simp only[Option.map_some]
   rw[DV zs i (by omega)]
 ·rw[if_neg (by omega),if_neg hi,List.getElem?_eq_none (by simp;omega)]
  rfl
theorem yY (zs:LI):(gW zs).length=16:=by simp[gW]
theorem M8 {zs:LI} (h:aC zs):bJ (gW zs):=by
 intro i
 unfold gW
 simp only[List.getD_eq_getElem?_getD,List.getElem?_map]
 by_cases hi:i<16
 ·rw[List.getElem?_range hi]
  exact mL h i
 ·rw[List.getElem?_eq_none (by simp;omega)]
  exact(show gG 0 from⟨by decide,by decide⟩)
theorem JU:∀W,(zeroValue 156).run prog W=.ok (.agg (dS (aA 8) 0 (aA 64) 0)) W:=fun W=>by kernel_rfl
theorem af2:∀W,(zeroValue 177).run prog W=.ok (.agg (Iv .u32 (aA 16))) W:=fun W=>by kernel_rfl
theorem I4 (g n cap:Nat) (te:TypeId) (l:LI) (b o cap2:Nat) (w:World) (hg:w.heap[g]? =some (.cells (Iv .u32 l) te)) (hl:n≤l.length) (hn:0<n) (hcap2:cap2≤9223372036854775807):
 Calls prog 108 #[.slice (some ⟨g,0,none⟩) n cap,.slice (some ⟨b,o,none⟩) 0 cap2] w fun e w'=>e=.returned (.tuple #[])∧w'=w.setRow g (Iv .u32 (l.set 0 0)):=by
 have c0:w.cell? ⟨g,0,none⟩=some (.int .u32 (l.getD 0 0)):=aE.cell hg 0 (by omega)
 have f0:w.frozen? ⟨g,0,none⟩=false:=frozen_of_row _ _ _ _ _ hg
 have hn1:(0:Int)<n:=by omega
 have HG:Hid _:=hg
 clear hg
 go_enter func108,ntmps108
 go_wp2
 refine wp_loop_rounds 1 ?_
 rw[rdS]
 go_wp2_with fail
 refine(agG _ _ _).mono ?_
 rintro e w1 ⟨rfl,rfl⟩
 go_wp2
 go_end0
 refine⟨rfl,?_⟩
 rw[setCell_eq_setRow _ _ _ _ _ _ _ HG.out,bZ]
theorem KF (g:Nat) (te:TypeId) (b0 o cap2 f:Nat) (zs:LI) (w:World) (hzl:zs.length=f) (hf:f≤64) (hg:w.heap[g]? =some (.cells (Iv .u32 (aA 16)) te)) (hbg:b0≠g) (hz:aC zs)
 (hc:∀i,i<f→w.cell? ⟨b0,o+i,none⟩=some (.int .u8 (zs.getD i 0))) (hcap:f≤cap2) (hcap2:cap2≤9223372036854775807):
 Calls prog 108 #[.slice (some ⟨g,0,none⟩) 16 16,.slice (some ⟨b0,o,none⟩) f cap2] w fun e w'=>e=.returned (.tuple #[])∧∃d,w'=(w.setRow g (Iv .u32 (gW zs))).drewN d:=by
 by_cases h0:f=0
 ·subst h0
  obtain rfl:zs=[]:=List.length_eq_zero_iff.1 hzl
  refine(I4 g 16 16 te (aA 16) b0 o cap2 w hg (by simp[aA]) (by decide) hcap2).mono ?_
  rintro e w' ⟨rfl,rfl⟩
  exact⟨rfl,0,rfl⟩
 ·refine(jD f g 0 16 16 te (aA 16) b0 o cap2 zs w hzl hg (by simp[aA]) (by decide) hbg hz (by omega) (by omega) hc hcap hcap2).mono ?_
  rintro e w' ⟨rfl,d,rfl⟩
  refine⟨rfl,d,?_⟩
  rw[←V9 zs f hzl hf]
  rfl
def nG (h R:LI) (j:Nat):LI:=(List.range j).map (oE h R)++h.drop j
theorem AO (h R:LI) (j:Nat) (hh:h.length=8) (hj:j≤8):(nG h R j).length=8:=by simp[nG,hh];omega
theorem QD (h R:LI) (j:Nat) (hh:h.length=8) (hj:j<8):aM (nG h R j) j=aM h j:=by
 simp only[aM,nG,List.getD_eq_getElem?_getD,List.getElem?_append,lU,List.length_range]
 rw[if_neg (by omega),Nat.sub_self,List.getElem?_drop,Nat.add_zero]
theorem IN (h R:LI) (j:Nat) (hh:h.length=8) (hj:j<8):(nG h R j).set j (oE h R j)=nG h R (j+1):=by
 unfold nG
 rw[List.set_append,if_neg (by simp),lU,List.length_range,Nat.sub_self,List.range_succ,List.map_append,List.append_assoc]
 congr 1
 rw[List.drop_eq_getElem_cons (by omega)]
 rfl
theorem IM (h R:LI) (hh:h.length=8):nG h R 8=(List.range 8).map (oE h R):=by
 unfold nG
 rw[List.drop_eq_nil_of_le (by omega),List.append_nil]
theorem AI (h b:LI) (t f:Nat) (last:Bool) (w:World) (hh:h.length=8) (hb:b.length=64) (h32:bJ h) (hbb:aC (b.take f)) (hf:f≤64) (ht63:t+f<9223372036854775808) (ht:cN w) (Bf:LI) (HBF:Hid (jS h (gW (b.take f)) (t+f) last=Bf)) (hBf:Bf.length=8):
 Calls prog 95 #[.agg (dS h t b f),.bool last] w fun e w'=>e=.returned (.agg (dS Bf ((t+f:Nat):Int) b 0))∧Below w.heap.size w w':=by
 have hzv:=JU
 have hzw:=af2
 have hc8:=LX h t b f hh
 have hc73:=pC h t b f hh hb
 have HS8:Hid ((dS h t b f).setIfInBounds 8 (.int .u64 ((t:Int)+f))=dS h ((t+f:Nat):Int) b f):=by
  show _=_
  rw[Int.natCast_add]
  exact N8 h t b f hh _
 have ht0:(0:Int)≤t:=by omega
 have ht1:(t:Int)+f<9223372036854775808:=by omega
 have hfi:(f:Int)≤64:=by omega
 have HT:Hid _:=ht
 clear ht
 go_enter func95,ntmps95
 go_wp2_with fail
 obtain⟨W,hW,g0,g1,g2,hs,hB⟩:=pL w (.cells (dS h ((t+f:Nat):Int) b f) 156) (.cells (dS (aA 8) 0 (aA 64) 0) 156) (.cells (Iv .u32 (aA 16)) 177)
 rw[HS8.out,hW]
 clear hW HS8 hc8 hc73 ht0 ht1
 generalize hTdef:t+f=tt at*
 have HTD:Hid (t+f=tt):=hTdef
 clear hTdef
 have cf:W.cell? ⟨w.heap.size,73,none⟩=some (.int .i64 f):=by rw[cell_of_row _ _ _ _ _ _ g0,pC h tt b f hh hb]
 have HC:Hid (∀i,i<f→W.drew.cell? ⟨w.heap.size,9+i,none⟩=some (.int .u8 ((b.take f).getD i 0))):=fun i hi=>by
  show W.cell? _=_
  rw[cell_of_row _ _ _ _ _ _ g0,acF h tt b f hh hb i (by omega),cM,if_pos hi]
 have HZL:Hid ((b.take f).length=f):=by show _=_;simp[hb];omega
 have HM:Hid ((gW (b.take f)).length=16∧bJ (gW (b.take f))):=⟨yY _,M8 hbb⟩
 have G0:Hid _:=g0
 have G1:Hid _:=g1
 have G2:Hid _:=g2
 have HB:Hid _:=hB
 clear g0 g1 g2 hB
 refine wRh 5 wG (by kernel_rfl) ?_
 simp only[tU,tJ,dJ,dY]
 repeat(go_big_quiet_step (fail))
 refine wqN ?_
 go_wp2_with fail
 refine(KF (w.heap.size+1+1) 177 w.heap.size 9 64 f (b.take f) W.drew HZL.out hf G2.out (by omega) hbb HC.out (by omega) (by decide)).mono ?_
 rintro e w1 ⟨rfl,d,hw1⟩
 generalize gW (b.take f)=M at*
 have K0:Hid (w1.heap[w.heap.size]? =some (.cells (dS h tt b f) 156)):=by show _=_;rw[hw1];exact(cG W.drew _ _ _ (by omega)).trans G0.out
 have K1:Hid (w1.heap[w.heap.size+1]? =some (.cells (dS (aA 8) 0 (aA 64) 0) 156)):=by show _=_;rw[hw1];exact(cG W.drew _ _ _ (by omega)).trans G1.out
 have K2:Hid (aE w1 (w.heap.size+1+1) .u32 M 177):=by show aE _ _ _ _ _;rw[hw1];exact aE.put (w:=W.drew) G2.out _ d
 have KB:Hid (Below w.heap.size w w1):=by show Below _ _ _;rw[hw1];exact bDr (aO (bDr HB.out 1) _ (by omega) _) d
 have hs1:w1.heap.size=w.heap.size+1+1+1:=by rw[hw1];simpa using hs
 clear hw1 G0 G1 G2 HB HC hs cf HZL
 have hiS:Hid (∀(h':LI) (t' f':Int),h'.length=8→(prog.info? 156).map (·.size)=some (dS h' t' b f').size):=fun h' t' f' hh'=>by rw[fE h' t' b f' hh' hb];exact DB
 go_wp2_with(refine wpLr rfl 156 _ rfl w.heap.size rfl _ (dS h tt b f) _ _ K0.out underlying156 rfl (hiS.out h tt f hh) ?_)
 obtain⟨V0,hV0⟩:∃x,vJ h tt last=x:=⟨_,rfl⟩
 have HV:Hid (V0.length=16∧bJ V0):=⟨by rw[←hV0,BZ h tt last hh],by rw[←hV0];exact SU h32 tt last⟩
 refine(KU h b tt f last w1 hh hb (by omega) (HT.out.later KB.out (nQ _)) V0 hV0 HV.out.1).mono ?_
 rintro e w2 ⟨rfl,hb2⟩
 have L0:Hid _:=(hb2.block _ (by omega)).trans K0.out
 have L1:Hid _:=(hb2.block _ (by omega)).trans K1.out
 have L2:Hid _:=(hb2.block _ (by omega)).trans K2.out
 have LB:Hid _:=KB.out.trans (hb2.mono (by omega))
 have hs2:w.heap.size+1+1+1≤w2.heap.size:=by have:=hb2.size;omega
 clear hb2 K0 K1 K2 KB hs1
 have HBF2:Hid (∀R,dI V0 M 10=R→(List.range 8).map (oE h R)=Bf):=fun R hR=>by
  rw[←HBF.out,←hR,←hV0]
  rfl
 clear HBF hV0
 have hi16:Hid (∀L:LI,L.length=16→(prog.info? 177).map (·.size)=some (Iv .u32 L).size):=fun L hL=>by rw[aD,hL];exact AU
 have HTN:Hid ((w2.alloc (.cells (Iv .u32 (aA 16)) 177)).heap[w2.heap.size]? =some (.cells (Iv .u32 (aA 16)) 177)):=hAN _ _
 have hz16:Hid (∀L:LI,L.length=16→(Iv .u32 (aA 16)).size=(Iv .u32 L).size):=fun L hL=>by rw[aD,aD,hL];rfl
 go_wp2_with(refine wpPr rfl 177 _ _ rfl w2.heap.size (Iv .u32 V0) rfl rfl _ _ HTN.out (hi16.out V0 HV.out.1) (hz16.out V0 HV.out.1) (aG _ _) ?_)
 intro w3 hP3
 have M0:=(hP3.far w.heap.size (by omega)).trans ((hAO w2 (.cells (Iv .u32 (aA 16)) 177) (by omega)).trans L0.out)
 have M1:=(hP3.far (w.heap.size+1) (by omega)).trans ((hAO w2 (.cells (Iv .u32 (aA 16)) 177) (by omega)).trans L1.out)
 have M2:=(hP3.far (w.heap.size+1+1) (by omega)).trans ((hAO w2 (.cells (Iv .u32 (aA 16)) 177) (by omega)).trans L2.out)
 have M3:=hP3.here
 have MB:Below w.heap.size w w3:=hP3.below _ _ (LB.out.alloc (by omega) _) (by omega)
 clear hP3 HTN L0 L1 L2 LB
 generalize w2.heap.size=gv at*
 have N0:Hid _:=M0
 have N1:Hid _:=M1
 have N2:Hid _:=M2
 have N3:Hid _:=M3
 have NB:Hid _:=MB
 clear M0 M1 M2 M3 MB
 go_wp2_with fail
 go_loopw [25] (fun i wr=>∃k:Nat,k≤10∧i=.int .i64 k∧wr.heap[w.heap.size]? =some (.cells (dS h tt b f) 156)∧wr.heap[w.heap.size+1]? =some (.cells (dS (aA 8) 0 (aA 64) 0) 156)∧wr.heap[w.heap.size+1+1]? =some (.cells (Iv .u32 M) 177)∧wr.heap[gv]? =some (.cells (Iv .u32 (dI V0 M k)) 177)∧Below w.heap.size w wr) (fun i _=>10 - (intOf i).toNat)
 case atStart=>exact⟨0,by omega,rfl,N0.out,N1.out,N2.out,N3.out,NB.out⟩
 case round=>
  obtain⟨k,hk,rfl,M0,M1,M2,M3,MB⟩:=hrel
  clear N0 N1 N2 N3 NB
  by_cases hlt:k<10
  ·have HL:Hid (∀L,dI V0 M k=L→dI V0 M (k+1)=jN L M k 8):=fun L hL=>by rw[dI,hL]
   have hLl:(dI V0 M k).length=16:=by rw[jW,HV.out.1]
   have hLa:Hid _:=uL HV.out.2 M k
   have HLN:=HL.out _ rfl
   generalize dI V0 M k=L at*
   have HLN':Hid (∀x,x=jN L M k 8→dI V0 M (k+1)=x):=fun x hx=>by rw[hx,HLN]
   clear HL HLN
   have hgl:=(Array.getElem?_eq_some_iff.1 M3).1
   have N0:Hid _:=M0
   have N1:Hid _:=M1
   have N2:Hid _:=M2
   have N3:Hid _:=M3
   have NB:Hid _:=MB
   clear M0 M1 M2 M3 MB
   go_wp2_with(first
    | refine wpLr rfl 177 _ rfl gv rfl _ (Iv .u32 L) _ _ N3.out underlying177 rfl (hi16.out L hLl) ?_
    | refine wpLr rfl 177 _ rfl (w.heap.size+1+1) rfl _ (Iv .u32 M) _ _ N2.out underlying177 rfl (hi16.out M HM.out.1) ?_)
   obtain⟨X,hX⟩:∃x,jN L M k 8=x:=⟨_,rfl⟩
   have hXl:X.length=16:=by rw[←hX,kW,hLl]
   have HX:Hid _:=HLN'.out X hX.symm
   refine(GY L M k wr hLl hLa.out HM.out.1 HM.out.2 hlt (HT.out.later NB.out (nQ _)) X (fun y e=>e.symm.trans hX)).mono ?_
   rintro e w4 ⟨rfl,hb4⟩
   have P0:Hid _:=(hb4.block w.heap.size (by have:=NB.out.size;have:=(Array.getElem?_eq_some_iff.1 N1.out).1;omega)).trans N0.out
   have P1:Hid _:=(hb4.block (w.heap.size+1) (Array.getElem?_eq_some_iff.1 N1.out).1).trans N1.out
   have P2:Hid _:=(hb4.block (w.heap.size+1+1) (Array.getElem?_eq_some_iff.1 N2.out).1).trans N2.out
   have P3:Hid _:=(hb4.block gv hgl).trans N3.out
   have PB:Hid _:=NB.out.trans (hb4.mono NB.out.size)
   clear hb4 N0 N1 N2 N3 NB hX HLN'
   go_wp2_with(refine wpPr rfl 177 _ _ rfl gv (Iv .u32 X) rfl rfl _ _ P3.out (hi16.out X hXl) ?hs (aG _ _) ?_)
   case hs=>rw[aD,aD,hLl,hXl]
   intro w5 hP5
   have T0:Hid _:=(hP5.far w.heap.size (by omega)).trans P0.out
   have T1:Hid _:=(hP5.far (w.heap.size+1) (by omega)).trans P1.out
   have T2:Hid _:=(hP5.far (w.heap.size+1+1) (by omega)).trans P2.out
   have T3:Hid _:=hP5.here
   have TB:Hid _:=hP5.below _ _ PB.out (by omega)
   clear hP5 P0 P1 P2 P3 PB
   go_wp2
   go_roundw
   case rel=>exact⟨k+1,by omega,by go_num,T0.out,T1.out,T2.out,by rw[HX.out];exact T3.out,TB.out⟩
   case measure=>simp[intOf];omega
  ·obtain rfl:k=10:=by omega
   have hRl:(dI V0 M 10).length=16:=by rw[jW,HV.out.1]
   obtain⟨R,hR⟩:∃x,dI V0 M 10=x:=⟨_,rfl⟩
   have HBF3:Hid _:=HBF2.out R hR
   rw[hR]at M3 hRl
   clear hR HBF2
   have N0:Hid _:=M0
   have N1:Hid _:=M1
   have N3:Hid _:=M3
   have NB:Hid _:=MB
   clear M0 M1 M2 M3 MB
   have NF:Hid _:=N0.out
   obtain⟨WR,rfl⟩:∃X,X=wr:=⟨_,rfl⟩
   go_wp2_with fail
   go_loopw [33] (fun i wr=>∃j:Nat,j≤8∧i=.int .i64 j∧wr.heap[w.heap.size]? =some (.cells (dS (nG h R j) tt b f) 156)∧wr.heap[w.heap.size+1]? =some (.cells (dS (aA 8) 0 (aA 64) 0) 156)∧wr.heap[gv]? =some (.cells (Iv .u32 R) 177)∧Below w.heap.size w wr) (fun i _=>8 - (intOf i).toNat)
   case atStart=>exact⟨0,by omega,rfl,NF.out,N1.out,N3.out,NB.out⟩
   case round=>
    obtain⟨j,hj,rfl,M0,M1,M3,MB⟩:=hrel
    clear N0 N1 N3 NB NF
    have hFl:=AO h R j hh hj
    by_cases hlt:j<8
    ·have HFS:Hid (∀x,x=oE h R j→(nG h R j).set j x=nG h R (j+1)):=fun x hx=>by rw[hx,IN h R j hh hlt]
     have HFA:Hid (oE h R j=xr (aM h j) (xr (aM R j) (aM R (j+8)))):=rfl
     have cs:wr.cell? ⟨w.heap.size,j,none⟩=some (.int .u32 (aM h j)):=by rw[cell_of_row _ _ _ _ _ _ M0,IQ _ tt b f hFl j hlt,QD h R j hh hlt]
     have fs:wr.frozen? ⟨w.heap.size,j,none⟩=false:=frozen_of_row _ _ _ _ _ M0
     have c0:wr.cell? ⟨gv,j,none⟩=some (.int .u32 (aM R j)):=aE.cell (show aE wr gv .u32 R _ from M3) j (by omega)
     have c8:wr.cell? ⟨gv,j+8,none⟩=some (.int .u32 (aM R (j+8))):=aE.cell (show aE wr gv .u32 R _ from M3) (j+8) (by omega)
     generalize nG h R j=F at*
     generalize oE h R j=fx at*
     generalize aM h j=x at*
     generalize aM R j=y at*
     generalize aM R (j+8)=z at*
     have i8:(j:Int)+8<16:=by omega
     have N0:Hid _:=M0
     have N1:Hid _:=M1
     have N3:Hid _:=M3
     have NB:Hid _:=MB
     clear M0 M1 M3 MB
     go_wp2_with fail
     refine wRh 15 wG (by kernel_rfl) ?_
     simp only[tU,tJ,dJ,dY]
     repeat(go_big_quiet_step (fail))
     refine wqN ?_
     go_wp2_with fail
     go_roundw
     case rel=>
      refine⟨j+1,by omega,by go_num,?_,?_,?_,?_⟩
      ·rw[←HFS.out (xr x (xr y z)) HFA.out.symm,←EJ F tt b f hFl j hlt]
       exact heap_setCell_same _ _ _ _ _ _ N0.out
      ·exact(heap_setCell_other _ _ _ _ (by simp)).trans N1.out
      ·exact(heap_setCell_other _ _ _ _ (by simp;omega)).trans N3.out
      ·exact bDr (Below.setCell NB.out (by simp) _) 1
     case measure=>simp[intOf];omega
    ·obtain rfl:j=8:=by omega
     rw[IM h R hh,HBF3.out]at M0
     have hS:Hid _:=vV Bf tt b f hBf hb 0
     have N0:Hid _:=M0
     have N1:Hid _:=M1
     have NB:Hid _:=MB
     have c73:∃v,wr.cell? ⟨w.heap.size,73,none⟩=some v:=⟨_,by rw[cell_of_row _ _ _ _ _ _ M0,pC Bf tt b f hBf hb]⟩
     obtain⟨v73,hv73⟩:=c73
     have f73:wr.frozen? ⟨w.heap.size,73,none⟩=false:=frozen_of_row _ _ _ _ _ M0
     have T0:Hid ((wr.setCell ⟨w.heap.size,73,none⟩ (.int .i64 0)).heap[w.heap.size]? =some (.cells (dS Bf tt b 0) 156)):=by
      show _=_
      rw[←hS.out]
      exact heap_setCell_same _ _ _ _ _ _ N0.out
     have T1:Hid ((wr.setCell ⟨w.heap.size,73,none⟩ (.int .i64 0)).heap[w.heap.size+1]? =some (.cells (dS (aA 8) 0 (aA 64) 0) 156)):=by
      show _=_
      rw[heap_setCell_other _ _ _ _ (by simp)]
      exact N1.out
     have TB:Hid (Below w.heap.size w (wr.setCell ⟨w.heap.size,73,none⟩ (.int .i64 0))):=Below.setCell NB.out (by simp) _
     go_wp2_with(first
      | refine wpLr rfl 156 _ rfl w.heap.size rfl _ (dS Bf tt b 0) _ _ T0.out underlying156 rfl (hiS.out Bf tt 0 hBf) ?_
      | refine wpPr rfl 156 _ _ rfl (w.heap.size+1) (dS Bf tt b 0) rfl rfl _ _ T1.out (hiS.out Bf tt 0 hBf) ?hs (pZ _ _ _ _) ?_)
     case hs=>rw[fE _ _ _ _ hBf hb];rfl
     intro W9 hP9
     go_wp2
     exact bodyPost_ret (v:=.agg (dS Bf tt b 0)) (results_cell_row rfl _ _ _ _ (dS Bf tt b 0) _ _ rfl hP9.here underlying156 rfl (hiS.out Bf tt 0 hBf)) rfl ⟨by rw[HTD.out],hP9.below _ _ TB.out (by omega)⟩
theorem abY {l:LI} (h:∀i,i<l.length→(Lit.int .u8 (l.getD i 0)).wf=true):aC l:=by
 intro i
 by_cases hi:i<l.length
 ·have:=h i hi
  simp only[Lit.wf,IntKind.min,IntKind.max,IntKind.signed,IntKind.bits]at this
  simp at this
  simpa using this
 ·simp[List.getD_eq_getElem?_getD,List.getElem?_eq_none (show l.length≤i by omega)]
theorem aV {a b:LI} (ha:aC a) (hb:aC b):aC (a++b):=by
 intro i
 have h1:=ha i
 have h2:=hb (i - a.length)
 simp only[List.getD_eq_getElem?_getD,List.getElem?_append]at*
 split
 ·exact h1
 ·exact h2
def lenOf:Value→Nat
 | .slice _ n _=>n
 | _=>0
theorem OA:(prog.info? 5).map (·.size)=some 1:=by kernel_rfl
theorem FM (h0 D P:LI) (k t fn:Nat) (h b:LI) (htk:Hid (t=64*k)) (s:uF h0 D k fn h b) (hk:0<fn∨k=0) (hh0:h0.length=8) (h032:bJ h0) (hD:aC D) (hP:aC P) (n cap:Nat) (hn:P.length=n) (hcap:n≤cap) (hcap2:cap≤9223372036854775807) (hlen:D.length+n≤1000000000000) (bb oo:Nat) (w:World)
 (hc:∀j,j<n→w.cell? ⟨bb,oo+j,none⟩=some (.int .u8 (P.getD j 0))) (hbb:0<n→bb<w.heap.size) (ht:cN w):
 Calls prog 94 #[.agg (dS h t b fn),.slice (some ⟨bb,oo,none⟩) n cap] w fun e w'=>∃(k' t' fn':Nat) (h' b':LI),e=.returned (.agg (dS h' t' b' fn'))∧t'=64*k'∧uF h0 (D++P) k' fn' h' b'∧(0<fn'∨k'=0)∧Below w.heap.size w w':=by
 have hzv:=JU
 have HT:Hid _:=ht
 have HC:Hid _:=hc
 have HS:Hid _:=s
 have HK:Hid _:=hk
 clear ht hc s hk
 go_enter func94,ntmps94
 go_wp2_with fail
 go_loopw [1] (fun v wr=>∃(j k' t' fn':Nat) (h' b':LI) (a':Option Addr),j≤n∧v=.slice a' (n - j) (cap - j)∧(j<n→a'=some ⟨bb,oo+j,none⟩)∧t'=64*k'∧uF h0 (D++P.take j) k' fn' h' b'∧(0<fn'∨k'=0)∧wr.heap[w.heap.size]? =some (.cells (dS h' t' b' fn') 156)∧wr.heap[w.heap.size+1]? =some (.cells (dS (aA 8) 0 (aA 64) 0) 156)∧Below w.heap.size w wr) (fun v _=>lenOf v)
 case atStart=>
  obtain⟨W,hW,g0,g1,hs,hb⟩:=iU w (.cells (dS h t b fn) 156) (.cells (dS (aA 8) 0 (aA 64) 0) 156)
  subst hW
  exact⟨0,k,t,fn,h,b,_,Nat.zero_le _,rfl,fun _=>rfl,htk.out,by simpa using HS.out,HK.out,g0,g1,hb⟩
 case round=>
  obtain⟨j,k1,t1,fn1,h1,b1,a1,hj,rfl,ha,ht1,s1,hk1,M0,M1,MB⟩:=hrel
  have hh1:h1.length=8:=by rw[s1.words];exact iN h0 _ hh0 k1
  have h132:Hid (bJ h1):=by show bJ h1;rw[s1.words];exact DP h032 _ k1
  have hb1:=s1.blk
  have hf1:=s1.fill
  have hl1:D.length+j=64*k1+fn1:=by have:=s1.len;rw[lQ,List.length_take]at this;omega
  have hiS:Hid (∀(h':LI) (t' f':Int) (b':LI),h'.length=8→b'.length=64→(prog.info? 156).map (·.size)=some (dS h' t' b' f').size):=fun h' t' f' b' hh' hb'=>by rw[fE h' t' b' f' hh' hb'];exact DB
  clear HS HK htk
  have S1:Hid _:=s1
  clear s1
  by_cases hlt:j<n
  ·obtain rfl:=ha hlt
   have hnj:(0:Int)<((n - j:Nat):Int):=by omega
   have HBY:Hid (aC (b1.take fn1)):=uF.bytes S1.out (aV hD (dB hP j))
   have HCJ:Hid (∀i,i<n - j→wr.cell? ⟨bb,oo+j+i,none⟩=some (.int .u8 ((P.drop j).getD i 0))):=fun i hi=>by
    have hlo:=hbb (by omega)
    rw[MB.cell (p:=⟨bb,oo+j+i,none⟩) hlo,show oo+j+i=oo+(j+i) by omega,HC.out (j+i) (by omega)]
    simp[List.getD_eq_getElem?_getD,List.getElem?_drop]
   by_cases hfull:fn1=64
   ·subst hfull
    have cf:wr.cell? ⟨w.heap.size,73,none⟩=some (.int .i64 64):=by rw[cell_of_row _ _ _ _ _ _ M0,pC h1 _ b1 _ hh1 hb1];rfl
    have hlw:w.heap.size+1<wr.heap.size:=(Array.getElem?_eq_some_iff.1 M1).1
    have HSQ:Hid _:=uF.squeezed S1.out
    have hq1:t1+64<9223372036854775808:=by omega
    have HT1:Hid _:=ht1
    have N0:Hid _:=M0
    have N1:Hid _:=M1
    have NB:Hid _:=MB
    clear M0 M1 MB ht1
    go_wp2_with(refine wpLr rfl 156 _ rfl w.heap.size rfl _ (dS h1 t1 b1 (64:Nat)) _ _ N0.out underlying156 rfl (hiS.out h1 _ _ b1 hh1 hb1) ?_)
    obtain⟨h2,hh2d⟩:∃x,jS h1 (gW (b1.take 64)) (t1+64) false=x:=⟨_,rfl⟩
    have hh2:h2.length=8:=by rw[←hh2d];exact rK _ _ _ _
    have S2:Hid (uF h0 (D++P.take j) (k1+1) 0 h2 b1):=by
     show uF _ _ _ _ _ _
     rw[←hh2d,HT1.out]
     exact HSQ.out
    refine(AI h1 b1 t1 64 false wr hh1 hb1 h132.out HBY.out (nQ _) hq1 (HT.out.later NB.out (nQ _)) h2 hh2d hh2).mono ?_
    obtain⟨t2,ht2'⟩:∃x,x=t1+64:=⟨_,rfl⟩
    rw[←ht2']
    have HT2:Hid (t2=64*(k1+1)):=by show _=_;rw[ht2',HT1.out];omega
    have hq2:t2≤2000000000000:=by have:=HT1.out;omega
    rintro e w1 ⟨rfl,hb4⟩
    have P0:Hid _:=(hb4.block w.heap.size (by omega)).trans N0.out
    have P1:Hid _:=(hb4.block (w.heap.size+1) (by omega)).trans N1.out
    have PB:Hid _:=NB.out.trans (hb4.mono NB.out.size)
    have HCJ1:Hid (∀i,i<n - j→w1.cell? ⟨bb,oo+j+i,none⟩=some (.int .u8 ((P.drop j).getD i 0))):=fun i hi=>(hb4.cell (p:=⟨bb,oo+j+i,none⟩) (by have:=hbb (by omega);have:=NB.out.size;show bb<_;omega)).trans (HCJ.out i hi)
    clear hb4 N0 N1 NB hh2d HSQ HT1 ht2' cf
    go_wp2_with(refine wpPr rfl 156 _ _ rfl w.heap.size (dS h2 t2 b1 0) rfl rfl _ _ P0.out (hiS.out h2 _ _ b1 hh2 hb1) ?hs (pZ _ _ _ _) ?_)
    case hs=>rw[fE _ _ _ _ hh1 hb1,fE _ _ _ _ hh2 hb1]
    intro w2 hP2
    obtain⟨f2,hf2⟩:∃f:Nat,f=0:=⟨_,rfl⟩
    have Q0:Hid (w2.heap[w.heap.size]? =some (.cells (HV h2 t2 b1 f2).toArray 156)):=by show _=_;rw[hf2];exact hP2.here
    have S2':=S2.out
    rw[←hf2]at S2'
    clear S2
    have S2:Hid _:=S2'
    clear S2'
    have Q1:Hid _:=(hP2.far (w.heap.size+1) (by omega)).trans P1.out
    have QB:Hid _:=hP2.below _ _ PB.out (nQ _)
    have HCJ2:Hid (∀i,i<n - j→w2.cell? ⟨bb,oo+j+i,none⟩=some (.int .u8 ((P.drop j).getD i 0))):=fun i hi=>by
     have hne:bb≠w.heap.size:=by have:=hbb (by omega);omega
     have e:=hP2.far bb hne
     rw[←HCJ1.out i hi]
     unfold World.cell?
     rw[e]
    clear hP2 P0 P1 PB HCJ1
    generalize hk2:k1+1=k2 at*
    have hf2l:f2<64:=by omega
    have HL2:Hid (D.length+j=64*k2+f2):=by show _=_;omega
    clear hl1 hk1 hf1 hk2 hq1 hf2
    obtain⟨m,hm⟩:∃x,x=min (n - j) (64 - f2):=⟨_,rfl⟩
    have hm1:m≤n - j:=by omega
    have hm2:m≤64 - f2:=by omega
    have hm3:0<m:=by omega
    have hm4:m=n - j∨m=64 - f2:=by omega
    clear hm
    have HX:Hid (((P.drop j).take m).length=m):=by show _=_;simp[hn];omega
    have HCM:Hid (∀i,i<m→w2.cell? ⟨bb,oo+j+i,none⟩=some (.int .u8 (((P.drop j).take m).getD i 0))):=fun i hi=>by rw[HCJ2.out i (by omega),cM,if_pos hi]
    have HPUT:Hid ((HV h2 t2 b1 f2).take (9+f2)++(((P.drop j).take m).map (Value.int .u8)++(HV h2 t2 b1 f2).drop (9+f2+(((P.drop j).take m).map (Value.int .u8)).length))=HV h2 t2 (b1.take f2++((P.drop j).take m++b1.drop (f2+m))) f2):=by
     have e:=abI h2 t2 b1 f2 hh2 hb1 f2 ((P.drop j).take m) (by rw[HX.out];omega)
     rw[HX.out]at e
     exact e
    have S3:Hid (uF h0 (D++P.take (j+m)) k2 (f2+m) h2 (b1.take f2++((P.drop j).take m++b1.drop (f2+m)))):=by
     have e:=uF.copied S2.out ((P.drop j).take m) m HX.out (by omega)
     rw[List.append_assoc,←List.take_add]at e
     exact e
    obtain⟨b3,hb3⟩:∃x,b1.take f2++((P.drop j).take m++b1.drop (f2+m))=x:=⟨_,rfl⟩
    rw[hb3]at HPUT S3
    have hb3l:b3.length=64:=S3.out.blk
    generalize(P.drop j).take m=X at*
    clear hb3 S2 HCJ HCJ2
    have c73:w2.cell? ⟨w.heap.size,73,none⟩=some (.int .i64 f2):=by rw[cell_of_row _ _ _ _ _ _ Q0.out];exact pC h2 _ b1 _ hh2 hb1
    have if2:(f2:Int)<64:=by omega
    have if2':(f2:Int)≤64:=by omega
    have nf2:(f2=64)=False:=by simp;omega
    have nfi:((f2:Int)=64)=False:=by simp;omega
    have HMN:Hid (m=Nat.min (n - j) (64 - f2)):=by show m=min (n - j) (64 - f2);omega
    go_wp2_with(refine LR .u8 rfl (.tmp 17) (.tmp 18) 22 22 rfl 5 underlying22 OA w.heap.size (9+f2) (64 - f2) (64 - f2) bb (oo+j) (n - j) (cap - j) rfl rfl (HV h2 t2 b1 f2) X (HV h2 t2 b3 f2) m 156 Q0.out HX.out HMN.out HCM.out ?hfit HPUT.out ?_)
    case hfit=>rw[CU _ _ _ _ hh2 hb1];omega
    intro w3 hP3
    have hcf:(dS h2 t2 b3 f2)[73]? =some (.int .i64 f2):=pC h2 _ b3 _ hh2 hb3l
    have R0:=hP3.here
    have c73':w3.cell? ⟨w.heap.size,73,none⟩=some (.int .i64 f2):=by rw[cell_of_row _ _ _ _ _ _ R0];exact hcf
    have f73':w3.frozen? ⟨w.heap.size,73,none⟩=false:=frozen_of_row _ _ _ _ _ R0
    have HR0:Hid _:=R0
    have HR1:Hid _:=(hP3.far (w.heap.size+1) (by omega)).trans Q1.out
    have HRB:Hid _:=hP3.below _ _ QB.out (nQ _)
    clear hP3 R0 hcf Q0 Q1 QB c73 HPUT HCM HX
    have im:(m:Int)≤((n - j:Nat):Int):=by omega
    have im2:(m:Int)≤((cap - j:Nat):Int):=by omega
    have im3:((n - j:Nat):Int)≤((cap - j:Nat):Int):=by omega
    have HFIN:Hid ((dS h2 t2 b3 f2).setIfInBounds 73 (.int .i64 ((f2:Int)+m))=dS h2 t2 b3 ((f2+m:Nat):Int)):=by
     show _=_
     rw[Int.natCast_add]
     exact vV h2 t2 b3 f2 hh2 hb3l _
    have HU0:Hid ((w3.setCell ⟨w.heap.size,73,none⟩ (.int .i64 ((f2:Int)+m))).heap[w.heap.size]? =some (.cells (dS h2 t2 b3 ((f2+m:Nat):Int)) 156)):=by
     show _=_
     rw[←HFIN.out]
     exact heap_setCell_same _ _ _ _ _ _ HR0.out
    have HU1:Hid ((w3.setCell ⟨w.heap.size,73,none⟩ (.int .i64 ((f2:Int)+m))).heap[w.heap.size+1]? =some (.cells (dS (aA 8) 0 (aA 64) 0) 156)):=(heap_setCell_other _ _ _ _ (by simp)).trans HR1.out
    have HUB:Hid (Below w.heap.size w (w3.setCell ⟨w.heap.size,73,none⟩ (.int .i64 ((f2:Int)+m)))):=Below.setCell HRB.out (by simp) _
    by_cases hend:cap - j=m
    ·have hendp:(cap - j=m)=True:=by simp[hend]
     go_wp2
     go_roundw
     case rel=>exact⟨j+m,k2,t2,f2+m,h2,b3,_,by omega,by rw[show n - (j+m)=n - j - m by omega,show cap - (j+m)=0 by omega],fun hh=>by omega,HT2.out,S3.out,.inl (by omega),HU0.out,HU1.out,HUB.out⟩
     case measure=>simp only[lenOf];omega
    ·have hendp:(cap - j=m)=False:=by simp[hend]
     go_wp2
     go_roundw
     case rel=>exact⟨j+m,k2,t2,f2+m,h2,b3,_,by omega,by rw[show n - (j+m)=n - j - m by omega,show cap - (j+m)=cap - j - m by omega],fun hh=>by simp[Nat.add_assoc],HT2.out,S3.out,.inl (by omega),HU0.out,HU1.out,HUB.out⟩
     case measure=>simp only[lenOf];omega
   ·obtain⟨w2,rfl⟩:∃X,X=wr:=⟨_,rfl⟩
    obtain⟨h2,rfl⟩:∃X,X=h1:=⟨_,rfl⟩
    obtain⟨t2,rfl⟩:∃X,X=t1:=⟨_,rfl⟩
    obtain⟨k2,rfl⟩:∃X,X=k1:=⟨_,rfl⟩
    obtain⟨f2,rfl⟩:∃X,X=fn1:=⟨_,rfl⟩
    have hh2:=hh1
    have HT2:Hid _:=ht1
    have hq2:t2≤2000000000000:=by omega
    have S2:Hid _:=S1.out
    have HCJ2:Hid _:=HCJ.out
    have Q0:Hid _:=M0
    have Q1:Hid _:=M1
    have QB:Hid _:=MB
    have hf2l:f2<64:=by omega
    have HL2:Hid _:=hl1
    clear hl1 hk1 hf1 M0 M1 MB ht1 hh1
    obtain⟨m,hm⟩:∃x,x=min (n - j) (64 - f2):=⟨_,rfl⟩
    have hm1:m≤n - j:=by omega
    have hm2:m≤64 - f2:=by omega
    have hm3:0<m:=by omega
    have hm4:m=n - j∨m=64 - f2:=by omega
    clear hm
    have HX:Hid (((P.drop j).take m).length=m):=by show _=_;simp[hn];omega
    have HCM:Hid (∀i,i<m→w2.cell? ⟨bb,oo+j+i,none⟩=some (.int .u8 (((P.drop j).take m).getD i 0))):=fun i hi=>by rw[HCJ2.out i (by omega),cM,if_pos hi]
    have HPUT:Hid ((HV h2 t2 b1 f2).take (9+f2)++(((P.drop j).take m).map (Value.int .u8)++(HV h2 t2 b1 f2).drop (9+f2+(((P.drop j).take m).map (Value.int .u8)).length))=HV h2 t2 (b1.take f2++((P.drop j).take m++b1.drop (f2+m))) f2):=by
     have e:=abI h2 t2 b1 f2 hh2 hb1 f2 ((P.drop j).take m) (by rw[HX.out];omega)
     rw[HX.out]at e
     exact e
    have S3:Hid (uF h0 (D++P.take (j+m)) k2 (f2+m) h2 (b1.take f2++((P.drop j).take m++b1.drop (f2+m)))):=by
     have e:=uF.copied S2.out ((P.drop j).take m) m HX.out (by omega)
     rw[List.append_assoc,←List.take_add]at e
     exact e
    obtain⟨b3,hb3⟩:∃x,b1.take f2++((P.drop j).take m++b1.drop (f2+m))=x:=⟨_,rfl⟩
    rw[hb3]at HPUT S3
    have hb3l:b3.length=64:=S3.out.blk
    generalize(P.drop j).take m=X at*
    clear hb3 S2 HCJ HCJ2
    have c73:w2.cell? ⟨w.heap.size,73,none⟩=some (.int .i64 f2):=by rw[cell_of_row _ _ _ _ _ _ Q0.out];exact pC h2 _ b1 _ hh2 hb1
    have if2:(f2:Int)<64:=by omega
    have if2':(f2:Int)≤64:=by omega
    have nf2:(f2=64)=False:=by simp;omega
    have nfi:((f2:Int)=64)=False:=by simp;omega
    have HMN:Hid (m=Nat.min (n - j) (64 - f2)):=by show m=min (n - j) (64 - f2);omega
    go_wp2_with(refine LR .u8 rfl (.tmp 17) (.tmp 18) 22 22 rfl 5 underlying22 OA w.heap.size (9+f2) (64 - f2) (64 - f2) bb (oo+j) (n - j) (cap - j) rfl rfl (HV h2 t2 b1 f2) X (HV h2 t2 b3 f2) m 156 Q0.out HX.out HMN.out HCM.out ?hfit HPUT.out ?_)
    case hfit=>rw[CU _ _ _ _ hh2 hb1];omega
    intro w3 hP3
    have hcf:(dS h2 t2 b3 f2)[73]? =some (.int .i64 f2):=pC h2 _ b3 _ hh2 hb3l
    have R0:=hP3.here
    have c73':w3.cell? ⟨w.heap.size,73,none⟩=some (.int .i64 f2):=by rw[cell_of_row _ _ _ _ _ _ R0];exact hcf
    have f73':w3.frozen? ⟨w.heap.size,73,none⟩=false:=frozen_of_row _ _ _ _ _ R0
    have HR0:Hid _:=R0
    have HR1:Hid _:=(hP3.far (w.heap.size+1) (by omega)).trans Q1.out
    have HRB:Hid _:=hP3.below _ _ QB.out (nQ _)
    clear hP3 R0 hcf Q0 Q1 QB c73 HPUT HCM HX
    have im:(m:Int)≤((n - j:Nat):Int):=by omega
    have im2:(m:Int)≤((cap - j:Nat):Int):=by omega
    have im3:((n - j:Nat):Int)≤((cap - j:Nat):Int):=by omega
    have HFIN:Hid ((dS h2 t2 b3 f2).setIfInBounds 73 (.int .i64 ((f2:Int)+m))=dS h2 t2 b3 ((f2+m:Nat):Int)):=by
     show _=_
     rw[Int.natCast_add]
     exact vV h2 t2 b3 f2 hh2 hb3l _
    have HU0:Hid ((w3.setCell ⟨w.heap.size,73,none⟩ (.int .i64 ((f2:Int)+m))).heap[w.heap.size]? =some (.cells (dS h2 t2 b3 ((f2+m:Nat):Int)) 156)):=by
     show _=_
     rw[←HFIN.out]
     exact heap_setCell_same _ _ _ _ _ _ HR0.out
    have HU1:Hid ((w3.setCell ⟨w.heap.size,73,none⟩ (.int .i64 ((f2:Int)+m))).heap[w.heap.size+1]? =some (.cells (dS (aA 8) 0 (aA 64) 0) 156)):=(heap_setCell_other _ _ _ _ (by simp)).trans HR1.out
    have HUB:Hid (Below w.heap.size w (w3.setCell ⟨w.heap.size,73,none⟩ (.int .i64 ((f2:Int)+m)))):=Below.setCell HRB.out (by simp) _
    by_cases hend:cap - j=m
    ·have hendp:(cap - j=m)=True:=by simp[hend]
     go_wp2
     go_roundw
     case rel=>exact⟨j+m,k2,t2,f2+m,h2,b3,_,by omega,by rw[show n - (j+m)=n - j - m by omega,show cap - (j+m)=0 by omega],fun hh=>by omega,HT2.out,S3.out,.inl (by omega),HU0.out,HU1.out,HUB.out⟩
     case measure=>simp only[lenOf];omega
    ·have hendp:(cap - j=m)=False:=by simp[hend]
     go_wp2
     go_roundw
     case rel=>exact⟨j+m,k2,t2,f2+m,h2,b3,_,by omega,by rw[show n - (j+m)=n - j - m by omega,show cap - (j+m)=cap - j - m by omega],fun hh=>by simp[Nat.add_assoc],HT2.out,S3.out,.inl (by omega),HU0.out,HU1.out,HUB.out⟩
     case measure=>simp only[lenOf];omega
  ·obtain rfl:j=n:=by omega
   rw[List.take_of_length_le (by omega)]at S1
   have HT2:Hid _:=ht1
   have N0:Hid _:=M0
   have N1:Hid _:=M1
   have NB:Hid _:=MB
   have hz0:Hid ((0:Nat)=j - j):=by show _=_;omega
   clear M0 M1 MB ht1
   go_wp2_with(first
    | refine wpLr rfl 156 _ rfl w.heap.size rfl _ (dS h1 t1 b1 fn1) _ _ N0.out underlying156 rfl (hiS.out _ _ _ _ hh1 hb1) ?_
    | refine wpPr rfl 156 _ _ rfl (w.heap.size+1) (dS h1 t1 b1 fn1) rfl rfl _ _ N1.out (hiS.out _ _ _ _ hh1 hb1) ?hs (pZ _ _ _ _) ?_)
   case hs=>rw[fE _ _ _ _ hh1 hb1];rfl
   intro W9 hP9
   go_wp2
   exact bodyPost_ret (v:=.agg (dS h1 t1 b1 fn1)) (results_cell_row rfl _ _ _ _ (dS h1 t1 b1 fn1) _ _ rfl hP9.here underlying156 rfl (hiS.out _ _ _ _ hh1 hb1)) rfl ⟨k1,t1,fn1,h1,b1,rfl,HT2.out,S1.out,hk1,hP9.below _ _ NB.out (by omega)⟩
def eJ (w:World) (v:Value) (P:LI):Prop:=∃a n cap,v=.slice a n cap∧P.length=n∧n≤cap∧cap≤9223372036854775807∧aC P∧(n=0∨∃bb oo,a=some ⟨bb,oo,none⟩∧∀j,j<n→w.cell? ⟨bb,oo+j,none⟩=some (.int .u8 (P.getD j 0)))
theorem eJ.later {w w':World} {v:Value} {P:LI} {B:Nat} (h:eJ w v P) (hb:Below B w w') (hB:w.heap.size≤B):eJ w' v P:=by
 obtain⟨a,n,cap,h1,h2,h3,h4,h5,h6⟩:=h
 refine⟨a,n,cap,h1,h2,h3,h4,h5,h6.imp id ?_⟩
 rintro⟨bb,oo,rfl,hc⟩
 exact⟨bb,oo,rfl,fun j hj=>(hb.cell (p:=⟨bb,oo+j,none⟩) (nJ (wJ _ _ (hc j hj)) hB)).trans (hc j hj)⟩
theorem FN (h b:LI) (t fn:Nat) (hh:h.length=8) (hb:b.length=64) (a:Option Addr) (cap:Nat) (w:World):
 Calls prog 94 #[.agg (dS h t b fn),.slice a 0 cap] w fun e w'=>e=.returned (.agg (dS h t b fn))∧Below w.heap.size w w':=by
 have hzv:=JU
 have hiS:Hid ((prog.info? 156).map (·.size)=some (dS h t b fn).size):=by show _=_;rw[fE h t b fn hh hb];exact DB
 obtain⟨W,hW,g0,g1,hs,hB⟩:=iU w (.cells (dS h t b fn) 156) (.cells (dS (aA 8) 0 (aA 64) 0) 156)
 have G0:Hid _:=g0
 have G1:Hid _:=g1
 have HB:Hid _:=hB
 clear g0 g1 hB
 go_enter func94,ntmps94
 go_wp2_with fail
 refine wp_loop_rounds 1 ?_
 rw[rdS]
 go_wp2_with(first
  | refine wpLr rfl 156 _ rfl w.heap.size rfl _ (dS h t b fn) _ _ G0.out underlying156 rfl hiS.out ?_
  | refine wpPr rfl 156 _ _ rfl (w.heap.size+1) (dS h t b fn) rfl rfl _ _ G1.out hiS.out ?hs (pZ _ _ _ _) ?_)
 case hs=>rw[fE _ _ _ _ hh hb];rfl
 intro W9 hP9
 go_wp2
 exact bodyPost_ret (v:=.agg (dS h t b fn)) (results_cell_row rfl _ _ _ _ (dS h t b fn) _ _ rfl hP9.here underlying156 rfl hiS.out) rfl ⟨rfl,hP9.below _ _ HB.out (by omega)⟩
theorem GU (h0 D P:LI) (k t fn:Nat) (h b:LI) (htk:t=64*k) (s:uF h0 D k fn h b) (hk:0<fn∨k=0) (hh0:h0.length=8) (h032:bJ h0) (hD:aC D) (hlen:D.length+P.length≤1000000000000) (v:Value) (w:World) (hp:eJ w v P) (ht:cN w):
 Calls prog 94 #[.agg (dS h t b fn),v] w fun e w'=>∃(k' t' fn':Nat) (h' b':LI),e=.returned (.agg (dS h' t' b' fn'))∧t'=64*k'∧uF h0 (D++P) k' fn' h' b'∧(0<fn'∨k'=0)∧Below w.heap.size w w':=by
 obtain⟨a,n,cap,rfl,hn,hc1,hc2,hB,hz|⟨bb,oo,rfl,hc⟩⟩:=hp
 ·subst hz
  obtain rfl:P=[]:=List.length_eq_zero_iff.1 hn
  refine(FN h b t fn (by rw[s.words];exact iN h0 _ hh0 k) s.blk a cap w).mono ?_
  rintro e w' ⟨rfl,hb⟩
  exact⟨k,t,fn,h,b,rfl,htk,by simpa using s,hk,hb⟩
 ·exact FM h0 D P k t fn h b htk s hk hh0 h032 hD hB n cap hn hc1 hc2 (by omega) bb oo w hc (fun hpos=>wJ _ _ (hc 0 hpos)) ht
theorem zC:∀(Ps:List LI),(∀P∈Ps,aC P)→aC Ps.flatten
 | [],_=>fun i=>by simp
 | P::Ps,h=>by
   rw[List.flatten_cons]
   exact aV (h P (by simp)) (zC Ps fun Q hQ=>h Q (by simp[hQ]))
theorem eJ.bytes {w:World} {v:Value} {P:LI} (h:eJ w v P):aC P:=by
 obtain⟨a,n,cap,h1,h2,h3,h4,h5,h6⟩:=h
 exact h5
theorem TF (h0 D:LI) (Ps:List LI) (vs:List Value) (k t fn:Nat) (h b:LI) (htk:Hid (t=64*k)) (s:uF h0 D k fn h b) (hk:0<fn∨k=0) (hh0:h0.length=8) (h032:bJ h0) (hD:aC D) (hlen:D.length+Ps.flatten.length≤1000000000000)
 (np cap pb po:Nat) (hvs:vs.length=np) (hPs:Ps.length=np) (hnp:np≤1000) (w:World) (hpb:0<np→pb<w.heap.size) (hc:∀i (hi:i<vs.length),w.cell? ⟨pb,po+i,none⟩=some vs[i]) (hp:∀i (hi:i<vs.length) (hi':i<Ps.length),eJ w vs[i] Ps[i]) (ht:cN w):
 Calls prog 79 #[.agg (dS h t b fn),.slice (some ⟨pb,po,none⟩) np cap] w fun e w'=>∃(k' t' fn':Nat) (h' b':LI),e=.returned (.agg (dS h' t' b' fn'))∧t'=64*k'∧uF h0 (D++Ps.flatten) k' fn' h' b'∧(0<fn'∨k'=0)∧Below w.heap.size w w':=by
 have hzv:=JU
 have HT:Hid _:=ht
 have HC:Hid _:=hc
 have HP:Hid _:=hp
 have HS:Hid _:=s
 have HK:Hid _:=hk
 clear ht hc hp s hk
 go_enter func79,ntmps79
 go_wp2_with fail
 go_loopw [9] (fun v wr=>∃(j k' t' fn':Nat) (h' b':LI),j≤np∧v=.int .i64 j∧t'=64*k'∧uF h0 (D++(Ps.take j).flatten) k' fn' h' b'∧(0<fn'∨k'=0)∧wr.heap[w.heap.size]? =some (.cells (dS h' t' b' fn') 156)∧wr.heap[w.heap.size+1]? =some (.cells (dS (aA 8) 0 (aA 64) 0) 156)∧Below w.heap.size w wr) (fun v _=>np - (intOf v).toNat)
 case atStart=>
  obtain⟨W,hW,g0,g1,hs,hb⟩:=iU w (.cells (dS h t b fn) 156) (.cells (dS (aA 8) 0 (aA 64) 0) 156)
  subst hW
  exact⟨0,k,t,fn,h,b,Nat.zero_le _,rfl,htk.out,by simpa using HS.out,HK.out,g0,g1,hb⟩
 case round=>
  obtain⟨j,k1,t1,fn1,h1,b1,hj,rfl,ht1,s1,hk1,M0,M1,MB⟩:=hrel
  have hh1:h1.length=8:=by rw[s1.words];exact iN h0 _ hh0 k1
  have hb1:=s1.blk
  have hiS:Hid (∀(h':LI) (t' f':Int) (b':LI),h'.length=8→b'.length=64→(prog.info? 156).map (·.size)=some (dS h' t' b' f').size):=fun h' t' f' b' hh' hb'=>by rw[fE h' t' b' f' hh' hb'];exact DB
  clear HS HK htk
  have S1:Hid _:=s1
  have HT1:Hid _:=ht1
  have N0:Hid _:=M0
  have N1:Hid _:=M1
  have NB:Hid _:=MB
  have hlw:w.heap.size+1<wr.heap.size:=(Array.getElem?_eq_some_iff.1 M1).1
  clear s1 ht1 M0 M1 MB
  by_cases hlt:j<np
  ·have cv:wr.cell? ⟨pb,po+j,none⟩=some (vs[j]'(by omega)):=(NB.out.cell (p:=⟨pb,po+j,none⟩) (hpb (by omega))).trans (HC.out j (by omega))
   have HPJ:Hid (eJ wr (vs[j]'(by omega)) (Ps[j]'(by omega))):=(HP.out j (by omega) (by omega)).later NB.out (nQ _)
   have HFL:Hid ((Ps.take (j+1)).flatten=(Ps.take j).flatten++Ps[j]'(by omega)):=by
    show _=_
    rw[tQ (by omega),List.flatten_append]
    simp
   have HBD:Hid (aC (D++(Ps.take j).flatten)):=by
    refine aV hD (zC _ fun P hP=>?_)
    obtain⟨i,hi,rfl⟩:=List.mem_iff_getElem.1 (List.mem_of_mem_take hP)
    exact(HP.out i (by omega) hi).bytes
   have HLN:Hid ((D++(Ps.take j).flatten).length+(Ps[j]'(by omega)).length≤1000000000000):=by
    have e:(Ps.take (j+1)).flatten.length≤Ps.flatten.length:=by
     have:Ps.flatten=(Ps.take (j+1)).flatten++(Ps.drop (j+1)).flatten:=by rw[←List.flatten_append,List.take_append_drop]
     rw[this,lQ]
     omega
    rw[HFL.out,lQ]at e
    show _≤_
    rw[lQ]
    omega
   generalize vs[j]'(by omega)=v at*
   generalize Ps[j]'(by omega)=P at*
   go_wp2_with(refine wpLr rfl 156 _ rfl w.heap.size rfl _ (dS h1 t1 b1 fn1) _ _ N0.out underlying156 rfl (hiS.out _ _ _ _ hh1 hb1) ?_)
   refine(GU h0 _ P k1 t1 fn1 h1 b1 HT1.out S1.out hk1 hh0 h032 HBD.out HLN.out v wr HPJ.out (HT.out.later NB.out (nQ _))).mono ?_
   rintro e w1 ⟨k2,t2,fn2,h2,b2,rfl,ht2,s2,hk2,hb4⟩
   have hh2:h2.length=8:=by rw[s2.words];exact iN h0 _ hh0 k2
   have hb2:=s2.blk
   have S2:Hid _:=s2
   have HT2:Hid _:=ht2
   have P0:Hid _:=(hb4.block w.heap.size (by omega)).trans N0.out
   have P1:Hid _:=(hb4.block (w.heap.size+1) (by omega)).trans N1.out
   have PB:Hid (Below w.heap.size w w1):=NB.out.trans (hb4.mono NB.out.size)
   clear hb4 N0 N1 NB s2 ht2 cv
   go_wp2_with(refine wpPr rfl 156 _ _ rfl w.heap.size (dS h2 t2 b2 fn2) rfl rfl _ _ P0.out (hiS.out h2 _ _ b2 hh2 hb2) ?hs (pZ _ _ _ _) ?_)
   case hs=>rw[fE _ _ _ _ hh1 hb1,fE _ _ _ _ hh2 hb2]
   intro w2 hP2
   have Q0:Hid _:=hP2.here
   have Q1:Hid _:=(hP2.far (w.heap.size+1) (by omega)).trans P1.out
   have QB:Hid (Below w.heap.size w w2):=hP2.below _ _ PB.out (nQ _)
   clear hP2 P0 P1 PB
   go_wp2
   go_roundw
   case rel=>exact⟨j+1,k2,t2,fn2,h2,b2,by omega,by go_num,HT2.out,by rw[HFL.out,←List.append_assoc];exact S2.out,hk2,Q0.out,Q1.out,QB.out⟩
   case measure=>simp[intOf];omega
  ·obtain rfl:j=np:=by omega
   rw[List.take_of_length_le (by omega)]at S1
   go_wp2_with(first
    | refine wpLr rfl 156 _ rfl w.heap.size rfl _ (dS h1 t1 b1 fn1) _ _ N0.out underlying156 rfl (hiS.out _ _ _ _ hh1 hb1) ?_
    | refine wpPr rfl 156 _ _ rfl (w.heap.size+1) (dS h1 t1 b1 fn1) rfl rfl _ _ N1.out (hiS.out _ _ _ _ hh1 hb1) ?hs (pZ _ _ _ _) ?_)
   case hs=>rw[fE _ _ _ _ hh1 hb1];rfl
   intro W9 hP9
   go_wp2
   exact bodyPost_ret (v:=.agg (dS h1 t1 b1 fn1)) (results_cell_row rfl _ _ _ _ (dS h1 t1 b1 fn1) _ _ rfl hP9.here underlying156 rfl (hiS.out _ _ _ _ hh1 hb1)) rfl ⟨k1,t1,fn1,h1,b1,rfl,HT1.out,S1.out,hk1,hP9.below _ _ NB.out (by omega)⟩
def tN (K:LI):LI:=if K.length=0 then[]else K++rQ (64 - K.length) 0
theorem YP:∀W,(zeroValue 149).run prog W=.ok (.agg (Iv .u8 (aA 64))) W:=fun W=>by kernel_rfl
theorem aeC:prog.built 156 [(0,.agg (Iv .u32 mP))]=some (dS mP 0 (aA 64) 0):=by kernel_rfl
theorem vK {P:Program} {ops:Array Oper} {rest:List Oper} {o:Oper} {a:Act} {w:World} {Q:Exit→Act→World→Prop} (hg:o.guard=none) (t:TypeId) (parts:Array (Nat×Operand)) (ho:o.op=.build t parts) (cs:Array Value)
 (hf:P.built t (parts.map fun(i,x)=>(i,a.eval x)).toList=some cs) (h:wpList P ops Q rest (a.put o.dst (.agg cs)) w):wpList P ops Q (o::rest) a w:=
 wpList_build hg t parts ho (by rw[hf];rfl) (by rw[hf];exact h)
theorem cN.ivRange {w:World} (h:cN w):w.rangeAt 1 0 (mP.map (Value.int .u32)):=by
 intro j v hj
 have hj8:j<8:=by have:=(List.getElem?_eq_some_iff.1 hj).1;simpa[mP]using this
 rw[Nat.zero_add,h.iv j hj8,←hj]
 simp[aM,List.getD_eq_getElem?_getD,List.getElem?_eq_getElem (show j<mP.length from hj8)]
theorem yX (n kl:Nat) (HK:Hid (kl=0)) (hkl:kl≤64) (hn:n≤64) (a:Option Addr) (cap:Nat) (w:World) (ht:cN w) (bgl:LI) (HBL:Hid (jA n kl=bgl)):
 Calls prog 78 #[.int .i64 n,.slice a kl cap] w fun e w'=>e=.returned (.agg (dS bgl 0 (aA 64) 0))∧Below w.heap.size w w':=by
 have hk0:(0<kl)=False:=by have:=HK.out;simp;omega
 have hzv:=JU
 have hzb:=YP
 have HT:Hid _:=ht
 clear ht
 have hiS:Hid (∀(h':LI) (t' f':Int) (b':LI),h'.length=8→b'.length=64→(prog.info? 156).map (·.size)=some (dS h' t' b' f').size):=fun h' t' f' b' hh' hb'=>by rw[fE h' t' b' f' hh' hb'];exact DB
 have HR:Hid ((w.alloc (.cells (dS (aA 8) 0 (aA 64) 0) 156)).rangeAt 1 0 (mP.map (Value.int .u32))):=(HT.out.later ((Below.refl w.heap.size w).alloc (nQ _) _) (nQ _)).ivRange
 obtain⟨W,hW,g0,g1,hs,hBW⟩:=iU w (.cells (dS (aA 8) 0 (aA 64) 0) 156) (.cells (dS (aA 8) 0 (aA 64) 0) 156)
 have G0:Hid _:=g0
 have G1:Hid _:=g1
 have HBW:Hid _:=hBW
 clear g0 g1 hBW
 go_enter func78,ntmps78
 go_wp2_with(first
  | refine wpList_load_mid rfl 154 _ rfl 1 0 rfl (mP.map (Value.int .u32)) _ HR.out underlying154 rfl XF ?_
  | refine vK rfl 156 _ rfl (dS mP 0 (aA 64) 0) (by simp only[List.map_toArray,List.map_cons,List.map_nil];exact aeC) ?_
  | refine wpPr rfl 156 _ _ rfl (w.heap.size+1) (dS mP 0 (aA 64) 0) rfl rfl _ _ G1.out (hiS.out _ _ _ _ rfl rfl) rfl (pZ _ _ _ _) ?_)
 intro w1 hP1
 have R1:=hP1.here
 have R0:=(hP1.far w.heap.size (by omega)).trans G0.out
 have RB:Hid _:=hP1.below _ _ HBW.out (by omega)
 have hs1:w1.heap.size=w.heap.size+1+1:=by rw[hP1.size];exact hs
 clear hP1 G0 G1 HBW hW HR hs
 obtain⟨k0,e0⟩:∃x:Int,x=1779033703:=⟨_,rfl⟩
 have c0:w1.cell? ⟨w.heap.size+1,0,none⟩=some (.int .u32 k0):=by rw[e0,cell_of_row _ _ _ _ _ _ R1];exact IQ mP 0 (aA 64) 0 rfl 0 (by decide)
 have f0:w1.frozen? ⟨w.heap.size+1,0,none⟩=false:=frozen_of_row _ _ _ _ _ R1
 have HBG:Hid (∀x,x=xr k0 (xr (xr 16842752 ((kl:Int)*256)) n)→dS (mP.set 0 x) 0 (aA 64) 0=dS (jA n kl) 0 (aA 64) 0):=fun x hx=>by
  rw[hx,e0]
  unfold jA
  rw[Int.natCast_mul]
  rfl
 have hbl:=oL n kl
 have hb32:Hid (bJ (jA n kl)):=xN n kl
 have HROW:Hid (∀x,x=xr k0 (xr (xr 16842752 ((kl:Int)*256)) n)→(w1.setCell ⟨w.heap.size+1,0,none⟩ (.int .u32 x)).heap[w.heap.size+1]? =some (.cells (dS (jA n kl) 0 (aA 64) 0) 156)):=fun x hx=>by
  rw[←HBG.out x hx,←EJ mP 0 (aA 64) 0 rfl 0 (by decide)]
  exact heap_setCell_same _ _ _ _ _ _ R1
 have HRES:Hid (∀x,(w1.setCell ⟨w.heap.size+1,0,none⟩ (.int .u32 x)).heap[w.heap.size]? =some (.cells (dS (aA 8) 0 (aA 64) 0) 156)):=fun x=>(heap_setCell_other _ _ _ _ (by simp)).trans R0
 have HBEL:Hid (∀x,Below w.heap.size w (w1.setCell ⟨w.heap.size+1,0,none⟩ (.int .u32 x))):=fun x=>Below.setCell RB.out (by simp) _
 clear R0 R1 e0 HBG RB
 rw[HBL.out]at HROW hbl hb32
 clear HBL
 go_wp2_with(first
  | refine wpLr rfl 156 _ rfl (w.heap.size+1) rfl _ (dS bgl 0 (aA 64) 0) _ _ (HROW.out _ rfl) underlying156 rfl (hiS.out _ _ _ _ hbl rfl) ?_
  | refine wpPr rfl 156 _ _ rfl w.heap.size (dS bgl 0 (aA 64) 0) rfl rfl _ _ (HRES.out _) (hiS.out _ _ _ _ hbl rfl) ?hs (pZ _ _ _ _) ?_)
 case hs=>rw[fE _ _ _ _ hbl rfl];rfl
 intro W9 hP9
 go_wp2
 exact bodyPost_ret (v:=.agg (dS bgl 0 (aA 64) 0)) (results_cell_row rfl _ _ _ _ (dS bgl 0 (aA 64) 0) _ _ rfl hP9.here underlying156 rfl (hiS.out _ _ _ _ hbl rfl)) rfl ⟨rfl,hP9.below _ _ (HBEL.out _) (nQ _)⟩
end Go.Proofs.YtmjccemdldidaaaGreatDoor
