import Derived.Test.YtmjccemdldidaaaGreatDoorMH16
import Derived.Orders
import Derived.Laws.MakeOwn
namespace Go.Proofs.YtmjccemdldidaaaGreatDoor
open Go.RowKit
open Go.Proofs.Tryz
open Go
open Go renaming heap_alloc_new → hAN, heap_alloc_old → hAO, wpQuiet_nil → wqN
open Go.World renaming block_lt_of_cell? → wJ, size_alloc → wU
open List renaming drop_succ_cons → dJ, drop_zero → dY, length_append → lQ, length_map → lU, nil_append → nA, replicate → rQ, setIfInBounds_toArray → sU, set_cons_succ → sJ, set_cons_zero → sY, take_succ_cons → tU, take_succ_eq_append_getElem → tQ, take_zero → tJ
open Nat renaming le_refl → nQ
set_option linter.unusedVariables false
set_option linter.unusedSimpArgs false
set_option maxHeartbeats 2000000
set_option maxRecDepth 10000
theorem YY (ws:LI) (i:Nat):0≤iI ws i∧iI ws i≤255:=by unfold iI;omega
theorem cC (D:LI):aC (dC D):=by
 intro i
 unfold dC uK bytesOf
 simp only[List.getD_eq_getElem?_getD,List.getElem?_map]
 by_cases h:i<32
 ·rw[List.getElem?_range h]
  exact YY _ _
 ·rw[List.getElem?_eq_none (by simp;omega)]
  exact(show(0:Int)≤0∧(0:Int)≤255 from⟨by decide,by decide⟩)
def DI (K:LI):LI:=if 64<K.length then dC K else K
def fJ (K D:LI):LI:=dC (fV (DI K) 92 64++dC (fV (DI K) 54 64++D))
theorem nH (K D:LI):(fJ K D).length=32:=bC _
theorem wY (K D:LI) (kl dl:Nat) (hbig:¬64<kl) (hK:K.length=kl) (hKb:aC K) (hkl:kl≤5000000) (kb ko kcap db dO dcap:Nat) (w:World) (hkc:∀j,j<kl→w.cell? ⟨kb,ko+j,none⟩=some (.int .u8 (K.getD j 0))) (hD:D.length=dl) (hdl:dl≤5000000) (hDb:aC D) (hdb:db<w.heap.size) (hDr:∀j,j<dl→w.cell? ⟨db,dO+j,none⟩=some (.int .u8 (D.getD j 0))) (Bo:LI) (HBO:Hid (∀x,fJ K D=x→x=Bo)):
 Calls prog 49 #[.slice (some ⟨kb,ko,none⟩) kl kcap,.slice (some ⟨db,dO,none⟩) dl dcap] w fun e w'=>e=.returned (.agg (Iv .u8 Bo))∧Below w.heap.size w w':=by
 have hzb:=dM
 have hBo:Bo.length=32:=by rw[←HBO.out _ rfl];exact nH _ _
 have HKC:Hid _:=hkc
 have HDR:Hid _:=hDr
 clear hkc hDr
 have HB0:Hid (Below w.heap.size w (w.alloc (.cells (Iv .u8 (aA 32)) 25))):=(Below.refl _ _).alloc (nQ _) _
 have G0:Hid ((w.alloc (.cells (Iv .u8 (aA 32)) 25)).heap[w.heap.size]? =some (.cells (Iv .u8 (aA 32)) 25)):=hAN _ _
 go_enter func49,ntmps49
 ·have hb1:(64<kl)=False:=by simp;omega
  have hsh:DI K=K:=by unfold DI;rw[if_neg (by omega)]
  have HFIN:Hid (∀x,dC (fV K 92 64++dC (fV K 54 64++D))=x→x=Bo):=fun x hx=>HBO.out x (by unfold fJ;rw[hsh];exact hx)
  clear hsh
  have hkx:kl≤64:=by omega
  go_wp2_with fail
  obtain⟨wA,hW⟩:∃X,X=w.alloc (.cells (Iv .u8 (aA 32)) 25):=⟨_,rfl⟩
  have dS:w.heap.size<wA.heap.size:=by rw[hW];simp
  rw[←hW]at HB0 G0⊢
  clear hW
  have BA:Hid _:=HB0.out
  have GR:Hid _:=G0.out
  have HKX:Hid (∀j,j<kl→wA.cell? ⟨kb,ko+j,none⟩=some (.int .u8 (K.getD j 0))):=fun j hj=>(BA.out.cell (p:=⟨kb,ko+j,none⟩) (wJ _ _ (HKC.out j hj))).trans (HKC.out j hj)
  clear HB0 G0 HKC
  refine(L4 K kl hK hkx hKb 54 (by decide) (by decide) kb ko kcap wA HKX.out).mono ?_
  rintro e w2 ⟨x2,rfl,o2,hb2⟩
  obtain⟨g2,c2,rfl,hg2,l2,_,_⟩:=o2.lies
  rw[cF]
  have B2:Hid _:=BA.out.trans (hb2.mono BA.out.size)
  have L2:Hid _:=l2
  have HKX2:Hid (∀j,j<kl→w2.cell? ⟨kb,ko+j,none⟩=some (.int .u8 (K.getD j 0))):=fun j hj=>(hb2.cell (p:=⟨kb,ko+j,none⟩) (wJ _ _ (HKX.out j hj))).trans (HKX.out j hj)
  have GR2:Hid _:=(hb2.block w.heap.size dS).trans GR.out
  have LD2:Hid (sP w2 db dO D):=⟨by have:=B2.out.size;omega,fun j hj=>(B2.out.cell (p:=⟨db,dO+j,none⟩) hdb).trans (HDR.out j (by omega))⟩
  have hs2:w.heap.size<w2.heap.size:=by have:=hb2.size;omega
  clear hb2 o2 l2 BA HKX GR
  go_wp2_with fail
  refine(qY g2 0 c2 db dO dcap (fV K 54 64) D 64 dl (cF _ _ _) hD (by omega) (by intro h;have:=congrArg List.length h;rw[lQ,cF]at this;simp at this) w2 L2.out LD2.out).mono ?_
  rintro e w3 ⟨x3,rfl,o3,hb3⟩
  obtain⟨g3,c3,rfl,hg3,l3,_,_⟩:=o3.lies
  have hjl:(fV K 54 64++D).length=64+dl:=by rw[lQ,cF,hD]
  rw[hjl]
  have B3:Hid _:=B2.out.trans (hb3.mono B2.out.size)
  have L3:Hid _:=l3
  have HKX3:Hid (∀j,j<kl→w3.cell? ⟨kb,ko+j,none⟩=some (.int .u8 (K.getD j 0))):=fun j hj=>(hb3.cell (p:=⟨kb,ko+j,none⟩) (wJ _ _ (HKX2.out j hj))).trans (HKX2.out j hj)
  have GR3:Hid _:=(hb3.block w.heap.size hs2).trans GR2.out
  have hs3:w.heap.size<w3.heap.size:=by have:=hb3.size;omega
  have HJB:Hid (aC (fV K 54 64++D)):=aV (oH _ _ _) hDb
  obtain⟨Ji,hJi⟩:∃x,fV K 54 64++D=x:=⟨_,rfl⟩
  rw[hJi]at L3 hjl HJB HFIN
  clear hb3 o3 l3 B2 L2 LD2 HKX2 GR2 hs2 hJi
  go_wp2_with fail
  obtain⟨Bi,hBi⟩:∃x,dC Ji=x:=⟨_,rfl⟩
  have hBil:Bi.length=32:=by rw[←hBi];exact bC _
  rw[hBi]at HFIN
  have HBIB:Hid (aC Bi):=by show aC Bi;rw[←hBi];exact cC _
  refine(nO Ji (64+dl) g3 0 c3 w3 hjl (by omega) HJB.out (fun j hj=>L3.out.2 j (by rw[hjl];exact hj)) Bi (fun x hx=>by rw[←hx,hBi])).mono ?_
  rintro e w4 ⟨rfl,hb4⟩
  have B4:Hid _:=B3.out.trans (hb4.mono B3.out.size)
  have HKX4:Hid (∀j,j<kl→w4.cell? ⟨kb,ko+j,none⟩=some (.int .u8 (K.getD j 0))):=fun j hj=>(hb4.cell (p:=⟨kb,ko+j,none⟩) (wJ _ _ (HKX3.out j hj))).trans (HKX3.out j hj)
  have GR4:Hid _:=(hb4.block w.heap.size hs3).trans GR3.out
  have hs4:w.heap.size<w4.heap.size:=by have:=hb4.size;omega
  clear hb4 B3 L3 HKX3 GR3 hs3 HJB hBi
  have hi32:Hid (∀L:LI,L.length=32→(prog.info? 25).map (·.size)=some (Iv .u8 L).size):=fun L hL=>by rw[aD,hL];exact iD
  have HN4:Hid ((w4.alloc (.cells (Iv .u8 (aA 32)) 25)).heap[w4.heap.size]? =some (.cells (Iv .u8 (aA 32)) 25)):=hAN _ _
  go_wp2_with(refine wpPr rfl 25 _ _ rfl w4.heap.size (Iv .u8 Bi) rfl rfl _ _ HN4.out (hi32.out Bi hBil) ?hs (aG _ _) ?_)
  case hs=>rw[aD,aD,hBil];rfl
  intro w5 hP5
  have B5:Hid _:=hP5.below _ _ (B4.out.alloc B4.out.size _) B4.out.size
  have GI5:Hid _:=hP5.here
  have GR5:Hid _:=(hP5.far _ (by omega)).trans ((hAO _ _ hs4).trans GR4.out)
  have HKX5:Hid (∀j,j<kl→w5.cell? ⟨kb,ko+j,none⟩=some (.int .u8 (K.getD j 0))):=fun j hj=>by
   have hlt:=wJ _ _ (HKX4.out j hj)
   have e1:w5.heap[kb]? =w4.heap[kb]? :=(hP5.far kb (by have:kb<w4.heap.size:=hlt;omega)).trans (hAO _ _ hlt)
   rw[←HKX4.out j hj]
   unfold World.cell?
   rw[e1]
  have hs5:w4.heap.size<w5.heap.size:=by rw[hP5.size];simp
  obtain⟨gi,hgi⟩:∃x,x=w4.heap.size:=⟨_,rfl⟩
  rw[←hgi]at GI5 hs5 hs4⊢
  clear hP5 HN4 B4 GR4 HKX4 hgi
  go_wp2_with fail
  have S0:∃x:yM w5.heap.size w5,w5.drew=x.w:=⟨⟨w5.drew,bDr (Below.refl _ _) 1⟩,rfl⟩
  refine wRt 6 (fun w'=>∃x:yM w5.heap.size w5,w'=x.w) (.held [2] (.held [0] (.tail 1 (.tail 3 (.tail 4 (.tail 5 (.last 6 .done))))))) lK (by kernel_rfl) S0 ?_
  simp only[bR,oS]
  refine wqLr rfl 25 _ rfl gi rfl _ (Iv .u8 Bi) _ _ (fun W hW=>by obtain⟨x,rfl⟩:=hW;exact(x.bel.block _ hs5).trans GI5.out) underlying25 rfl (hi32.out Bi hBil) ?_
  simp only[pS]
  refine wqN ?_
  repeat(go_big_quiet_step (fail))
  refine wqN ?_
  go_wp2_with fail
  refine(L4 K kl hK hkx hKb 92 (by decide) (by decide) kb ko kcap w5.drew HKX5.out).mono ?_
  rintro e w6 ⟨x6,rfl,o6,hb6'⟩
  have hb6:Below w5.heap.size w5 w6:=⟨hb6'.os,hb6'.tape,hb6'.output,hb6'.size,hb6'.block⟩
  obtain⟨g6,c6,rfl,hg6,l6,_,_⟩:=o6.lies
  rw[cF]
  have L6:Hid _:=l6
  have C6:Hid _:=hb6
  clear hb6' o6 l6 hb6
  go_wp2_with fail
  refine⟨⟨⟨_,C6.out⟩,rfl⟩,?_⟩
  go_wp2_with fail
  refine(uT Bi hBil w6).mono ?_
  rintro e w7 ⟨x7,rfl,o7,hb7⟩
  obtain⟨g7,c7,rfl,hg7,l7,_,_⟩:=o7.lies
  rw[hBil]
  have C7:Hid _:=C6.out.trans (hb7.mono C6.out.size)
  have L6':Hid _:=sP.later (show sP w6 g6 0 (fV K 92 64)from L6.out) hb7 L6.out.1
  have L7:Hid _:=l7
  clear hb7 o7 l7 C6 L6
  go_wp2_with fail
  refine⟨⟨⟨_,C7.out⟩,rfl⟩,?_⟩
  go_wp2_with fail
  refine(qY g6 0 c6 g7 0 c7 (fV K 92 64) Bi 64 32 (cF _ _ _) hBil (by decide) (by intro h;have:=congrArg List.length h;rw[lQ,cF]at this;simp at this) w7 L6'.out L7.out).mono ?_
  rintro e w8 ⟨x8,rfl,o8,hb8⟩
  obtain⟨g8,c8,rfl,hg8,l8,_,_⟩:=o8.lies
  have hol:(fV K 92 64++Bi).length=96:=by rw[lQ,cF,hBil]
  rw[hol]
  have C8:Hid (Below w5.heap.size w5 w8):=C7.out.trans (hb8.mono C7.out.size)
  have L8:Hid _:=l8
  have HOB:Hid (aC (fV K 92 64++Bi)):=aV (oH _ _ _) HBIB.out
  clear hb8 o8 l8 C7 L7 L6'
  go_wp2_with fail
  refine⟨⟨⟨_,C8.out⟩,rfl⟩,?_⟩
  go_wp2_with fail
  refine(nO (fV K 92 64++Bi) 96 g8 0 c8 w8 hol (by decide) HOB.out (fun j hj=>L8.out.2 j (by rw[hol];exact hj)) Bo HFIN).mono ?_
  rintro e w9 ⟨rfl,hb9⟩
  have C9:Hid _:=C8.out.trans (hb9.mono C8.out.size)
  clear hb9 C8 L8 HOB
  go_wp2_with fail
  refine⟨⟨⟨_,C9.out⟩,rfl⟩,?_⟩
  have GR9:Hid _:=(C9.out.block w.heap.size (by omega)).trans GR5.out
  have B9:Hid _:=B5.out.trans (C9.out.mono B5.out.size)
  refine wpPr rfl 25 (.tmp 4) (.tmp 22) rfl w.heap.size (Iv .u8 Bo) rfl rfl _ _ GR9.out (hi32.out Bo hBo) (by rw[aD,aD,hBo];rfl) (aG _ _) ?_
  intro W9 hP9
  simp only[Act.put]
  have h9:=hP9.here
  have BW9:Below w.heap.size w W9:=hP9.below _ _ B9.out (nQ _)
  clear hP9 GR9 B9 C9 GR5 GI5 B5 HKX5
  go_wp2_with fail
  refine ET ?_
  go_wp2
  exact bodyPost_ret (v:=.agg (Iv .u8 Bo)) (results_cell_row rfl _ _ _ _ (Iv .u8 Bo) _ _ rfl h9 underlying25 rfl (hi32.out Bo hBo)) rfl ⟨rfl,BW9⟩
section
variable {P:Program} {ops:Array Oper} {Q:Exit→Act→World→Prop} {md:Region.Mode}
def IY (listed:Array Bool):Nat:=(listed.toList.filter (fun b=> !b)).length
theorem L9:∀(l:List Bool) (i:Nat),l.getD i true=false→((l.set i true).filter (fun b=> !b)).length+1=(l.filter (fun b=> !b)).length
 | [],i,h=>by simp at h
 | b::l,0,h=>by
   have:b=false:=by simpa using h
   subst this
   simp
 | b::l,i+1,h=>by
   have ih:=L9 l i (by simpa using h)
   simp only[sJ,List.filter_cons]
   cases b<;>simp<;>omega
theorem U5 {listed:Array Bool} {i:Nat} (h:listed.getD i true=false):IY (listed.setIfInBounds i true)+1=IY listed:=by
 have h2:=L9 listed.toList i (by simpa using h)
 simpa[IY]using h2
theorem IZ:∀(l:List Bool),(l.filter (fun b=> !b)).length=0→∀i,l.getD i true=true
 | [],_,i=>by simp
 | b::l,h,0=>by cases b<;>simp_all
 | b::l,h,i+1=>by
   have:(l.filter (fun b=> !b)).length=0:=by cases b<;>simp_all
   simpa using IZ l this i
theorem NA (Inv:Array Bool→Act→World→Prop) (hend:∀listed a w,Inv listed a w→Region.ready md ops listed=[]→Q .normal a w)
 (hstep:∀listed i a w,Inv listed a w→i∈Region.ready md ops listed→wpOp P ops Q i (Inv (listed.setIfInBounds i true)) a w):
 ∀(fuel:Nat) (listed:Array Bool) (a:Act) (w:World),IY listed≤fuel→Inv listed a w→wpAny P md ops Q fuel listed a w
 | 0,listed,a,w,hl,h=>by
   have hr:Region.ready md ops listed=[]:=by
    refine List.eq_nil_iff_forall_not_mem.2 fun i hi=>?_
    have h1:=(mem_ready.1 hi).1
    have h2:=IZ listed.toList (by have:IY listed=0:=by omega
                                  exact this) i
    have h3:listed.getD i true=true:=by simpa using h2
    rw[h3]at h1
    cases h1
   exact⟨hr,hend _ _ _ h hr⟩
 | fuel+1,listed,a,w,hl,h=>by
   refine⟨fun hr=>hend _ _ _ h hr,fun i hi=>?_⟩
   refine wpOp_mono (fun a' w' h'=>NA Inv hend hstep fuel _ a' w' ?_ h') (hstep listed i a w h hi)
   have:=U5 (mem_ready.1 hi).1
   omega
theorem Q5 (n:Nat):IY (Array.replicate n false)=n:=by simp[IY]
theorem KZ {id:Nat} {a:Act} {w:World} (Inv:Array Bool→Act→World→Prop) (hm:P.follows .mixedOrders=true) (h0:Inv (Array.replicate ops.size false) a w.drew)
 (hend:∀listed a w,Inv listed a w→Region.ready .any ops listed=[]→Q .normal a w)
 (hstep:∀listed i a w,Inv listed a w→i∈Region.ready .any ops listed→wpOp P ops Q i (Inv (listed.setIfInBounds i true)) a w):(Code.region id ops true).wp P Q a w:=
 wp_region_any hm (NA Inv hend hstep ops.size _ a _ (by rw[Q5];exact nQ _) h0)
end
def LbQ (listed:Array Bool) (i:Nat):Bool:=listed.getD i false
theorem akV {listed:Array Bool} {i j:Nat} (h:i≠j):LbQ (listed.setIfInBounds i true) j=LbQ listed j:=getD_set_ne false h
theorem aiY {listed:Array Bool} {i:Nat} (h:i<listed.size):LbQ (listed.setIfInBounds i true) i=true:=by simp[LbQ,h]
theorem akL {listed:Array Bool} {i:Nat} (h:listed.getD i true=false):i<listed.size∧LbQ listed i=false:=by
 have hlt:i<listed.size:=by
  rcases Nat.lt_or_ge i listed.size with h1|h1
  ·exact h1
  ·simp[Array.getD,Nat.not_lt.2 h1]at h
 refine⟨hlt,?_⟩
 simp only[LbQ,Array.getD,hlt,dif_pos]at h⊢
 exact h
def rY (L:LI) (v:Int) (k:Nat):LI:=(L.take k).map (fun z=>YN z v)++L.drop k
theorem NE (L:LI) (v:Int):rY L v 0=L:=by simp[rY]
theorem FK (L:LI) (v:Int) (k:Nat):(rY L v k).length=L.length:=by simp[rY];omega
theorem YM (L:LI) (v:Int) (k:Nat):(rY L v k).getD k 0=L.getD k 0:=by
 unfold rY
 simp only[List.getD_eq_getElem?_getD,List.getElem?_append,lU,List.length_take]
 by_cases h:k<L.length
 ·rw[if_neg (by omega),List.getElem?_drop]
  congr 2
  omega
 ·rw[List.getElem?_eq_none (show L.length≤k by omega)]
  split
  ·rw[List.getElem?_eq_none (by simp;omega)]
  ·rw[List.getElem?_eq_none (by simp;omega)]
theorem ND (L:LI) (v:Int) (k:Nat) (h:k<L.length):(rY L v k).set k (YN (L.getD k 0) v)=rY L v (k+1):=by
 unfold rY
 rw[List.set_append,if_neg (by simp;omega),lU,List.length_take,show k - min k L.length=0 by omega,tQ h,List.map_append,List.append_assoc]
 congr 1
 rw[List.drop_eq_getElem_cons h,sY]
 simp only[List.getD_eq_getElem?_getD,List.getElem?_eq_getElem h,Option.getD_some,List.map_cons,List.map_nil,List.singleton_append]
theorem adU (K:LI) (v:Int) (kx:Nat) (hK:K.length=kx) (hk:kx≤64):rY (K++rQ (64 - kx) 0) v 64=fV K v 64:=by
 unfold rY fV
 rw[List.take_of_length_le (by simp;omega),List.drop_eq_nil_of_le (by simp;omega),List.append_nil]
 apply List.ext_getElem?
 intro i
 simp only[List.getElem?_map,List.getElem?_append,List.getElem?_replicate,List.getD_eq_getElem?_getD,hK]
 by_cases h1:i<kx
 ·rw[if_pos h1,List.getElem?_range (by omega),List.getElem?_eq_getElem (by omega)]
  simp only[Option.map_some,List.getElem?_eq_getElem (show i<K.length by omega),Option.getD_some]
 ·rw[if_neg h1]
  by_cases h2:i<64
  ·rw[if_pos (by omega),List.getElem?_range h2]
   simp only[Option.map_some,List.getElem?_eq_none (show K.length≤i by omega),Option.getD_none]
  ·rw[if_neg (by omega),List.getElem?_eq_none (by simp;omega)]
   rfl
theorem SX (n:Nat):aC (rQ n 0):=fun i=>by simp[List.getD_eq_getElem?_getD,List.getElem?_replicate];split<;>simp
theorem eO.row1 {w:World} {g:Nat} {v:Value} {P:LI} {t:TypeId} (hg:w.heap[g]? =some (.cells #[v] t)) (h:eJ w v P):eO w g 0 1 [v] [P]:=by
 refine⟨rfl,rfl,by decide,fun _=>(Array.getElem?_eq_some_iff.1 hg).1,fun i hi=>?_,fun i hi hi'=>?_⟩
 ·obtain rfl:i=0:=by simpa using hi
  rw[cell_of_row _ _ _ _ _ _ hg]
  rfl
 ·obtain rfl:i=0:=by simpa using hi
  exact h
def HmY (h0 I:LI) (y:Value):Prop:=∃(k t fn:Nat) (h b:LI),y=.agg (dS h t b fn)∧t=64*k∧uF h0 I k fn h b∧(0<fn∨k=0)
theorem uQ (K:LI) (kl:Nat) (hbig:¬64<kl) (hK:K.length=kl) (hKb:aC K) (hkl:kl≤5000000) (kb ko kcap:Nat) (hkcap:kl≤kcap) (hkcap2:kcap≤9223372036854775807) (Ps:List LI) (vs:List Value) (np pcap pb po:Nat) (w:World) (hkc:∀j,j<kl→w.cell? ⟨kb,ko+j,none⟩=some (.int .u8 (K.getD j 0))) (hkbs:kb<w.heap.size) (hp:eO w pb po np vs Ps) (hlen:Ps.flatten.length≤100000000000) (ht:cN w) (Bo:LI) (HBO:Hid (∀x,fJ K Ps.flatten=x→x=Bo)):
 Calls prog 82 #[.slice (some ⟨kb,ko,none⟩) kl kcap,.slice (some ⟨pb,po,none⟩) np pcap] w fun e w'=>e=.returned (.agg (Iv .u8 Bo))∧Below w.heap.size w w':=by
 have hzb:=dM
 have hz64:=YP
 have hBo:Bo.length=32:=by rw[←HBO.out _ rfl];exact nH _ _
 have HKC:Hid _:=hkc
 have HP:Hid _:=hp
 have HT:Hid _:=ht
 clear hkc hp ht
 obtain⟨W,hW,g0,g1,g2,hs,hB⟩:=pL w (.cells (Iv .u8 (aA 32)) 25) (.cells (Iv .u8 (aA 64)) 149) (.cells (Iv .u8 (aA 64)) 149)
 have G0:Hid _:=g0
 have G1:Hid _:=g1
 have G2:Hid _:=g2
 have HB:Hid _:=hB
 clear g0 g1 g2 hB
 go_enter func82,ntmps82
 ·have hb1:(64<kl)=False:=by simp;omega
  have hsh:DI K=K:=by unfold DI;rw[if_neg (by omega)]
  have HFIN:Hid (∀x,dC (fV K 92 64++dC (fV K 54 64++Ps.flatten))=x→x=Bo):=fun x hx=>HBO.out x (by unfold fJ;rw[hsh];exact hx)
  clear hsh
  have hkx:kl≤64:=by omega
  have I1:W.heap[w.heap.size+1]? =some (.cells (Iv .u8 (aA 64)) 149):=G1.out
  have I2:W.heap[w.heap.size+1+1]? =some (.cells (Iv .u8 (aA 64)) 149):=G2.out
  have GRA:W.heap[w.heap.size]? =some (.cells (Iv .u8 (aA 32)) 25):=G0.out
  have BAA:Below w.heap.size w W:=HB.out
  have dS:w.heap.size+1+1<W.heap.size:=by omega
  have HKX:Hid (∀j,j<kl→W.cell? ⟨kb,ko+j,none⟩=some (.int .u8 (K.getD j 0))):=fun j hj=>(BAA.cell (p:=⟨kb,ko+j,none⟩) (wJ _ _ (HKC.out j hj))).trans (HKC.out j hj)
  have HKNE:Hid (kb≠w.heap.size+1∧kb≠w.heap.size+1+1):=⟨by omega,by omega⟩
  clear G0 G1 G2 HB HKC
  have HI1:Hid _:=I1
  have HI2:Hid _:=I2
  have HGR:Hid _:=GRA
  have HBA:Hid _:=BAA
  clear I1 I2 GRA BAA
  have HMINK:Hid (kl=Nat.min kl 64):=by show kl=min kl 64;omega
  have HNEW:Hid ((aA 64).take 0++(K++(aA 64).drop (0+kl))=K++rQ (64 - kl) 0):=by
   show _=_
   unfold aA
   rw[tJ,nA,Nat.zero_add,List.drop_replicate]
  go_wp2_with(refine PX .u8 rfl (.tmp 17) (.tmp 18) 22 22 rfl 5 underlying22 OA (w.heap.size+1) 0 64 64 kb ko kl kcap rfl rfl (aA 64) K (K++rQ (64 - kl) 0) kl 149 HI1.out hK HMINK.out HKX.out (by simp[aA]<;>omega) HNEW.out ?_)
  intro wB hPB
  have J1:Hid (wB.heap[w.heap.size+1]? =some (.cells (Iv .u8 (K++rQ (64 - kl) 0)) 149)):=hPB.here
  have J2:Hid (wB.heap[w.heap.size+1+1]? =some (.cells (Iv .u8 (aA 64)) 149)):=(hPB.far _ (by omega)).trans HI2.out
  have JR:Hid (wB.heap[w.heap.size]? =some (.cells (Iv .u8 (aA 32)) 25)):=(hPB.far _ (by omega)).trans HGR.out
  have JB:Hid (Below w.heap.size w wB):=hPB.below _ _ HBA.out (by omega)
  have HKX':Hid (∀j,j<kl→wB.cell? ⟨kb,ko+j,none⟩=some (.int .u8 (K.getD j 0))):=fun j hj=>by
   have e1:=hPB.far kb HKNE.out.1
   rw[←HKX.out j hj]
   unfold World.cell?
   rw[e1]
  have hsB:w.heap.size+1+1<wB.heap.size:=by rw[hPB.size];exact dS
  clear hPB HI1 HI2 HGR HBA HKX
  go_wp2_with(refine PX .u8 rfl (.tmp 20) (.tmp 21) 22 22 rfl 5 underlying22 OA (w.heap.size+1+1) 0 64 64 kb ko kl kcap rfl rfl (aA 64) K (K++rQ (64 - kl) 0) kl 149 J2.out hK HMINK.out HKX'.out (by simp[aA]<;>omega) HNEW.out ?_)
  intro wC hPC
  have M1:Hid (wC.heap[w.heap.size+1]? =some (.cells (Iv .u8 (K++rQ (64 - kl) 0)) 149)):=(hPC.far _ (by omega)).trans J1.out
  have M2:Hid (wC.heap[w.heap.size+1+1]? =some (.cells (Iv .u8 (K++rQ (64 - kl) 0)) 149)):=hPC.here
  have MR:Hid (wC.heap[w.heap.size]? =some (.cells (Iv .u8 (aA 32)) 25)):=(hPC.far _ (by omega)).trans JR.out
  have MB:Hid (Below w.heap.size w wC):=hPC.below _ _ JB.out (by omega)
  have hsC:w.heap.size+1+1<wC.heap.size:=by rw[hPC.size];exact hsB
  clear hPC J1 J2 JR JB HKX' HNEW HMINK hsB dS
  have hKp:(K++rQ (64 - kl) 0).length=64:=by simp[hK]<;>omega
  have HXP:Hid (∀v,rY (K++rQ (64 - kl) 0) v 64=fV K v 64):=fun v=>adU K v kl hK (by omega)
  have hKpb:Hid (aC (K++rQ (64 - kl) 0)):=aV hKb (SX _)
  generalize K++rQ (64 - kl) 0=KP at*
  go_wp2_with fail
  go_loopw [23] (fun i wr=>∃k:Nat,k≤64∧i=.int .i64 k∧wr.heap[w.heap.size+1]? =some (.cells (Iv .u8 (rY KP 54 k)) 149)∧wr.heap[w.heap.size+1+1]? =some (.cells (Iv .u8 (rY KP 92 k)) 149)∧wr.heap[w.heap.size]? =some (.cells (Iv .u8 (aA 32)) 25)∧Below w.heap.size w wr) (fun i _=>64 - (intOf i).toNat)
  case atStart=>exact⟨0,by omega,rfl,by rw[NE];exact M1.out,by rw[NE];exact M2.out,MR.out,MB.out⟩
  case round=>
   obtain⟨k,hk,rfl,P1,P2,PR,PB⟩:=hrel
   clear M1 M2 MR MB hsC
   by_cases hlt:k<64
   ·have HS1:Hid ((rY KP 54 k).set k (YN (KP.getD k 0) 54)=rY KP 54 (k+1)):=ND KP 54 k (by omega)
    have HS2:Hid ((rY KP 92 k).set k (YN (KP.getD k 0) 92)=rY KP 92 (k+1)):=ND KP 92 k (by omega)
    have c1:wr.cell? ⟨w.heap.size+1,k,none⟩=some (.int .u8 (KP.getD k 0)):=by rw[←YM KP 54 k];exact aE.cell (show aE wr _ .u8 (rY KP 54 k) _ from P1) k (by rw[FK];omega)
    have c2:wr.cell? ⟨w.heap.size+1+1,k,none⟩=some (.int .u8 (KP.getD k 0)):=by rw[←YM KP 92 k];exact aE.cell (show aE wr _ .u8 (rY KP 92 k) _ from P2) k (by rw[FK];omega)
    have f1:wr.frozen? ⟨w.heap.size+1,k,none⟩=false:=frozen_of_row _ _ _ _ _ P1
    have f2:wr.frozen? ⟨w.heap.size+1+1,k,none⟩=false:=frozen_of_row _ _ _ _ _ P2
    generalize KP.getD k 0=z at*
    generalize rY KP 54 k=L1 at*
    generalize rY KP 92 k=L2 at*
    have hki:(k:Int)<64:=by omega
    have N1:Hid _:=P1
    have N2:Hid _:=P2
    have NR:Hid _:=PR
    have NB:Hid _:=PB
    clear P1 P2 PR PB
    go_wp2
    go_roundw
    case rel=>
     refine⟨k+1,by omega,by go_num,?_,?_,?_,?_⟩
     ·rw[←HS1.out]
      exact aE.setFar (aE.setCell (show aE wr _ .u8 L1 _ from N1.out) k (YN z 54)) _ _ (by simp)
     ·rw[←HS2.out]
      exact aE.setCell (aE.setFar (show aE wr _ .u8 L2 _ from N2.out) _ _ (by simp)) k (YN z 92)
     ·exact(heap_setCell_other _ _ _ _ (by show _≠_;simp only;omega)).trans ((heap_setCell_other _ _ _ _ (by show _≠_;simp only;omega)).trans NR.out)
     ·exact(NB.out.setCell (by simp) _).setCell (by simp;omega) _
    case measure=>simp[intOf];omega
   ·obtain rfl:k=64:=by omega
    rw[HXP.out 54]at P1
    rw[HXP.out 92]at P2
    have N1:Hid _:=P1
    have N2:Hid _:=P2
    have NR:Hid _:=PR
    have NB:Hid _:=PB
    clear P1 P2 PR PB HXP hKp hKpb
    go_wp2_with fail
    have hBW:Below wr.heap.size wr wr:=Below.refl _ _
    obtain⟨h0,hh0d⟩:∃x,jA 32 0=x:=⟨_,rfl⟩
    have hh0:h0.length=8:=by rw[←hh0d];exact oL _ _
    have h032:Hid (bJ h0):=by show bJ h0;rw[←hh0d];exact xN _ _
    obtain⟨Bi,hBid⟩:∃x,dC (fV K 54 64++Ps.flatten)=x:=⟨_,rfl⟩
    have hBil:Bi.length=32:=by rw[←hBid];exact bC _
    have HBIB:Hid (aC Bi):=by show aC Bi;rw[←hBid];exact cC _
    have HBID:Hid (uK h0 (fV K 54 64++Ps.flatten)=Bi):=by show _=_;rw[←hh0d];exact hBid
    rw[hBid]at HFIN
    have HH0:Hid (jA 32 0=h0):=hh0d
    clear hBid hh0d
    have HTW:Hid (∀W',Below wr.heap.size wr W'→cN W'):=fun W' hW'=>HT.out.later (NB.out.trans (hW'.mono NB.out.size)) (nQ _)
    have HPW:Hid (∀W',Below wr.heap.size wr W'→eO W' pb po np vs Ps):=fun W' hW'=>HP.out.later (NB.out.trans (hW'.mono NB.out.size)) (nQ _)
    have hlr:w.heap.size+1+1<wr.heap.size:=(Array.getElem?_eq_some_iff.1 N2.out).1
    have HIP:Hid (∀W',Below wr.heap.size wr W'→eJ W' (.slice (some ⟨w.heap.size+1,0,none⟩) 64 64) (fV K 54 64)):=fun W' hW'=>by
     have e:=rC ((hW'.block _ (by omega)).trans N1.out) (oH K 54 64) (by rw[cF];decide)
     rw[cF]at e
     exact e
    have HOP:Hid (∀W',Below wr.heap.size wr W'→eJ W' (.slice (some ⟨w.heap.size+1+1,0,none⟩) 64 64) (fV K 92 64)):=fun W' hW'=>by
     have e:=rC ((hW'.block _ hlr).trans N2.out) (oH K 92 64) (by rw[cF];decide)
     rw[cF]at e
     exact e
    have hi32:Hid (∀L:LI,L.length=32→(prog.info? 25).map (·.size)=some (Iv .u8 L).size):=fun L hL=>by rw[aD,hL];exact iD
    have hz32:Hid (∀L:LI,L.length=32→(Iv .u8 (aA 32)).size=(Iv .u8 L).size):=fun L hL=>by rw[aD,aD,hL];rfl
    have YA:Hid (∀R v,Rn wr R v→Calls prog 78 #[.int .i64 32,.slice none 0 0] v fun e w'=>e=.returned (.agg (dS h0 0 (aA 64) 0))∧Below v.heap.size v w'):=fun R v H=>yX 32 0 rfl (by decide) (by decide) none 0 v (HTW.out v H.bel) h0 HH0.out
    have YB:Hid (∀R v g,Rn wr R v→(g,#[(.slice (some ⟨w.heap.size+1,0,none⟩) 64 64)],22)∈R→Calls prog 79 #[(.agg (dS h0 0 (aA 64) 0)),.slice (some ⟨g,0,none⟩) 1 1] v fun e w'=>∃y,e=.returned y∧HmY h0 (fV K 54 64) y∧Below v.heap.size v w'):=fun R v g H hm=>(uJ h0 [] [fV K 54 64] [(.slice (some ⟨w.heap.size+1,0,none⟩) 64 64)] 0 0 0 h0 (aA 64) rfl (uF.start h0 (aA 64) rfl) (.inr rfl) hh0 h032.out (fun i=>by simp) (by simp[cF]) 1 1 g 0 v (eO.row1 (H.at hm) (HIP.out v H.bel)) (HTW.out v H.bel)).mono (fun e w2 hx=>by obtain⟨k,t,fn,h,b,e1,e2,e3,e4,e5⟩:=hx;exact⟨_,e1,⟨k,t,fn,h,b,rfl,e2,by simpa using e3,e4⟩,e5⟩)
    have YC:Hid (∀R v y,Rn wr R v→HmY h0 (fV K 54 64) y→Calls prog 79 #[y,.slice (some ⟨pb,po,none⟩) np pcap] v fun e w'=>∃y,e=.returned y∧HmY h0 (fV K 54 64++Ps.flatten) y∧Below v.heap.size v w'):=fun R v y H hy=>by obtain⟨k0,t0,fn0,h1,b1,rfl,ht0,s0,hk0⟩:=hy;exact(uJ h0 (fV K 54 64) Ps vs k0 t0 fn0 h1 b1 ht0 s0 hk0 hh0 h032.out (oH _ _ _) (by rw[cF];omega) np pcap pb po v (HPW.out v H.bel) (HTW.out v H.bel)).mono (fun e w2 hx=>by obtain⟨k,t,fn,h,b,e1,e2,e3,e4,e5⟩:=hx;exact⟨_,e1,⟨k,t,fn,h,b,rfl,e2,e3,e4⟩,e5⟩)
    have YD:Hid (∀R v y,Rn wr R v→HmY h0 (fV K 54 64++Ps.flatten) y→Calls prog 80 #[y] v fun e w'=>e=.returned (.agg (Iv .u8 Bi))∧Below v.heap.size v w'):=fun R v y H hy=>by obtain⟨k0,t0,fn0,h1,b1,rfl,ht0,s0,hk0⟩:=hy;exact EB h0 (fV K 54 64++Ps.flatten) h1 b1 k0 t0 fn0 ht0 s0 hk0 hh0 h032.out (aV (oH _ _ _) HP.out.bytes) (by rw[lQ,cF];omega) v (HTW.out v H.bel) Bi HBID.out
    have S:Hid (Rn wr [] wr.drew):=(Rn.start wr).drew
    refine wRt 8 (Rn wr []) (.held [1,4] (.fork3 0 (.fork 2 (.fork 3 (.fork 5 (.fork 6 (.tail 7 (.last 8 .done)) 7 (.tail 6 (.last 8 .done))) 7 (.tail 5 (.tail 6 (.last 8 .done)))) 7 (.tail 3 (.tail 5 (.tail 6 (.last 8 .done))))) 7 (.tail 2 (.tail 3 (.tail 5 (.tail 6 (.last 8 .done)))))) 2 (.fork 0 (.fork 3 (.fork 5 (.fork 6 (.tail 7 (.last 8 .done)) 7 (.tail 6 (.last 8 .done))) 7 (.tail 5 (.tail 6 (.last 8 .done)))) 7 (.tail 3 (.tail 5 (.tail 6 (.last 8 .done))))) 7 (.tail 0 (.tail 3 (.tail 5 (.tail 6 (.last 8 .done)))))) 7 (.fork 0 (.tail 2 (.tail 3 (.tail 5 (.tail 6 (.last 8 .done))))) 2 (.tail 0 (.tail 3 (.tail 5 (.tail 6 (.last 8 .done)))))))) wG (by kernel_rfl) S.out ?_
    obtain⟨y0,ey⟩:∃y,y=wr.drew:=⟨_,rfl⟩
    rw[←ey]at S⊢
    clear ey
    refine wTh ?_
    simp only[oS]
    refine aB rfl (.slice (some ⟨w.heap.size+1,0,none⟩) 64 64) (fun w'=>by kernel_rfl) ?_
    simp only[Act.put,sU,sJ,sY]
    refine aB rfl (.slice (some ⟨pb,po,none⟩) np pcap) (fun w'=>by kernel_rfl) ?_
    simp only[Act.put,sU,sJ,sY]
    refine wqN ?_
    apply oR (.last 8 .done) (fun(b:Nat) (y y2:Value) (g:Nat) v=>Rn wr [(g,Iv .u8 (aA 32),25)] v)
    intro hr
    apply oR (.tail 6 (.last 8 .done)) (fun(b:Nat) (y y2:Value) (g:Nat) v=>HmY h0 (fV K 54 64++Ps.flatten) y2∧Rn wr [(g,Iv .u8 (aA 32),25)] v)
    intro hq
    apply qI (.tail 5 (.tail 6 (.last 8 .done))) (fun(b:Nat) (y:Value) (g:Nat) v=>HmY h0 (fV K 54 64) y∧Rn wr [(g,Iv .u8 (aA 32),25)] v)
    intro hp
    apply pQ (.tail 3 (.tail 5 (.tail 6 (.last 8 .done)))) (fun b g v=>Rn wr [(g,Iv .u8 (aA 32),25),(b,#[(.slice (some ⟨w.heap.size+1,0,none⟩) 64 64)],22)] v)
    intro h111
    apply pQ (.tail 0 (.tail 3 (.tail 5 (.tail 6 (.last 8 .done))))) (fun b g v=>Rn wr [(g,Iv .u8 (aA 32),25),(b,#[(.slice (some ⟨w.heap.size+1,0,none⟩) 64 64)],22)] v)
    intro h011
    apply cT (.tail 2 (.tail 3 (.tail 5 (.tail 6 (.last 8 .done))))) (fun g v=>Rn wr [(g,Iv .u8 (aA 32),25)] v)
    intro h101
    apply cT (.fork 3 (.fork 5 (.fork 6 (.tail 7 (.last 8 .done)) 7 (.tail 6 (.last 8 .done))) 7 (.tail 5 (.tail 6 (.last 8 .done)))) 7 (.tail 3 (.tail 5 (.tail 6 (.last 8 .done))))) (fun b v=>Rn wr [(b,#[(.slice (some ⟨w.heap.size+1,0,none⟩) 64 64)],22)] v)
    intro h110
    ·refine wTf3 ?_ ?_ ?_
     ·refine DT (YA.out _ _ S.out) S rfl rfl (by kernel_rfl) (fun _ q=>q) fun v q=>?_
      simp only[Act.put,sU,sJ,sY]
      have H:Hid _:=q
      clear q
      refine wTf ?_ ?_
      ·refine xE (mk:=fun c=>.slice (some ⟨c,0,none⟩) 1 1) (cs:=#[(.slice (some ⟨w.heap.size+1,0,none⟩) 64 64)]) (t:=22) H rfl rfl (by kernel_rfl) (fun _ q=>q) fun b v q=>?_
       simp only[Act.put,sU,sJ,sY]
       exact h110.out b _ q
      ·refine xE (mk:=fun c=>.pointer (some ⟨c,0,none⟩)) (cs:=Iv .u8 (aA 32)) (t:=25) H rfl rfl (by kernel_rfl) (fun _ q=>q) fun g v q=>?_
       simp only[Act.put,sU,sJ,sY]
       exact h101.out g _ q
     ·refine xE (mk:=fun c=>.slice (some ⟨c,0,none⟩) 1 1) (cs:=#[(.slice (some ⟨w.heap.size+1,0,none⟩) 64 64)]) (t:=22) S rfl rfl (by kernel_rfl) (fun _ q=>q) fun b v q=>?_
      simp only[Act.put,sU,sJ,sY]
      have H:Hid _:=q
      clear q
      refine wTf ?_ ?_
      ·refine DT (YA.out _ _ H.out) H rfl rfl (by kernel_rfl) (fun _ q=>q.tail) fun v q=>?_
       simp only[Act.put,sU,sJ,sY]
       exact h110.out b _ q
      ·refine xE (mk:=fun c=>.pointer (some ⟨c,0,none⟩)) (cs:=Iv .u8 (aA 32)) (t:=25) H rfl rfl (by kernel_rfl) (fun _ q=>q.tail) fun g v q=>?_
       simp only[Act.put,sU,sJ,sY]
       exact h011.out b g _ q
     ·refine xE (mk:=fun c=>.pointer (some ⟨c,0,none⟩)) (cs:=Iv .u8 (aA 32)) (t:=25) S rfl rfl (by kernel_rfl) (fun _ q=>q) fun g v q=>?_
      simp only[Act.put,sU,sJ,sY]
      have H:Hid _:=q
      clear q
      refine wTf ?_ ?_
      ·refine DT (YA.out _ _ H.out) H rfl rfl (by kernel_rfl) (fun _ q=>q.tail) fun v q=>?_
       simp only[Act.put,sU,sJ,sY]
       exact h101.out g _ q
      ·refine xE (mk:=fun c=>.slice (some ⟨c,0,none⟩) 1 1) (cs:=#[(.slice (some ⟨w.heap.size+1,0,none⟩) 64 64)]) (t:=22) H rfl rfl (by kernel_rfl) (fun _ q=>q.tail) fun b v q=>?_
       simp only[Act.put,sU,sJ,sY]
       exact h011.out b g _ q.two
    ·intro b v0 q0
     have H:Hid _:=q0
     clear q0
     refine wTf ?_ ?_
     ·refine GL (YB.out _ _ b H.out (.head _)) H rfl rfl (by kernel_rfl) (fun _ q=>q.tail) fun y v hy q=>?_
      simp only[Act.put,sU,sJ,sY]
      have H2:Hid _:=q.tail
      have HY:Hid _:=hy
      clear q hy H
      refine wTf ?_ ?_
      ·refine GL (YC.out _ _ _ H2.out HY.out) H2 rfl rfl (by kernel_rfl) (fun _ q=>q) fun y2 v hy2 q=>?_
       simp only[Act.put,sU,sJ,sY]
       have H3:Hid _:=q
       have HZ:Hid _:=hy2
       clear q hy2
       refine wTf ?_ ?_
       ·refine DT (YD.out _ _ _ H3.out HZ.out) H3 rfl rfl (by kernel_rfl) (fun _ q=>q) fun v q=>?_
        simp only[Act.put,sU,sJ,sY]
        have H4:Hid _:=q
        clear q
        refine wTt ?_
        refine xE (mk:=fun c=>.pointer (some ⟨c,0,none⟩)) (cs:=Iv .u8 (aA 32)) (t:=25) H4 rfl rfl (by kernel_rfl) (fun _ q=>q) fun g v q=>?_
        simp only[Act.put,sU,sJ,sY]
        exact hr.out b y y2 g _ q
       ·refine xE (mk:=fun c=>.pointer (some ⟨c,0,none⟩)) (cs:=Iv .u8 (aA 32)) (t:=25) H3 rfl rfl (by kernel_rfl) (fun _ q=>q) fun g v q=>?_
        simp only[Act.put,sU,sJ,sY]
        exact hq.out b y y2 g _ ⟨HZ.out,q⟩
      ·refine xE (mk:=fun c=>.pointer (some ⟨c,0,none⟩)) (cs:=Iv .u8 (aA 32)) (t:=25) H2 rfl rfl (by kernel_rfl) (fun _ q=>q) fun g v q=>?_
       simp only[Act.put,sU,sJ,sY]
       exact hp.out b y g _ ⟨HY.out,q⟩
     ·refine xE (mk:=fun c=>.pointer (some ⟨c,0,none⟩)) (cs:=Iv .u8 (aA 32)) (t:=25) H rfl rfl (by kernel_rfl) (fun _ q=>q.tail) fun g v q=>?_
      simp only[Act.put,sU,sJ,sY]
      exact h111.out b g _ q
    ·intro g v0 q0
     have H:Hid _:=q0
     clear q0
     refine wTt ?_
     refine xE (mk:=fun c=>.slice (some ⟨c,0,none⟩) 1 1) (cs:=#[(.slice (some ⟨w.heap.size+1,0,none⟩) 64 64)]) (t:=22) H rfl rfl (by kernel_rfl) (fun _ q=>q.tail) fun b v q=>?_
     simp only[Act.put,sU,sJ,sY]
     exact h111.out b g _ q.two
    ·intro b g v0 q0
     have H:Hid _:=q0
     clear q0
     refine wTt ?_
     refine DT (YA.out _ _ H.out) H rfl rfl (by kernel_rfl) (fun _ q=>q.tail.tail) fun v q=>?_
     simp only[Act.put,sU,sJ,sY]
     exact h111.out b g _ q
    ·intro b g v0 q0
     have H:Hid _:=q0
     clear q0
     refine wTt ?_
     refine GL (YB.out _ _ b H.out (.tail _ (.head _))) H rfl rfl (by kernel_rfl) (fun _ q=>q.tail.tail) fun y v hy q=>?_
     simp only[Act.put,sU,sJ,sY]
     exact hp.out b y g _ ⟨hy,q.two.tail⟩
    ·intro b y g v0 q0
     have H:Hid _:=q0.2
     have HY:Hid _:=q0.1
     clear q0
     refine wTt ?_
     refine GL (YC.out _ _ _ H.out HY.out) H rfl rfl (by kernel_rfl) (fun _ q=>q.tail) fun y2 v hy2 q=>?_
     simp only[Act.put,sU,sJ,sY]
     exact hq.out b y y2 g _ ⟨hy2,q⟩
    ·intro b y y2 g v0 q0
     have H:Hid _:=q0.2
     have HY:Hid _:=q0.1
     clear q0
     refine wTt ?_
     refine DT (YD.out _ _ _ H.out HY.out) H rfl rfl (by kernel_rfl) (fun _ q=>q.tail) fun v q=>?_
     simp only[Act.put,sU,sJ,sY]
     exact hr.out b y y2 g _ q
    intro b y y2 g v0 q0
    have H:Hid _:=q0
    clear q0 S YA YB YC YD
    refine wTl ?_
    simp only[oS]
    go_wp2_with(refine wpPr rfl 25 _ _ rfl g (Iv .u8 Bi) rfl rfl _ _ (H.out.at (.head _)) (hi32.out Bi hBil) (hz32.out Bi hBil) (aG _ _) ?_)
    intro V hP
    have hrow:=hP.here
    have hg:=(H.out.rw.row _ (.head _)).1
    have hbel:=(H.out.put0 hP).bel
    clear hP H
    refine aQ ?_
    have Q1:Hid _:=hrow
    have QO:Hid _:=HOP.out V hbel
    have QT:Hid _:=HTW.out V hbel
    have QR:Hid (V.heap[w.heap.size]? =some (.cells (Iv .u8 (aA 32)) 25)):=(hbel.block _ (by omega)).trans NR.out
    have QB:Hid (Below w.heap.size w V):=NB.out.trans (hbel.mono NB.out.size)
    have hlV:g<V.heap.size:=(Array.getElem?_eq_some_iff.1 hrow).1
    have hsV:=hbel.size
    have QI:Hid (eJ V (.slice (some ⟨g,0,none⟩) 32 32) Bi):=by
     have e:=rC hrow HBIB.out (by rw[hBil];decide)
     rw[hBil]at e
     exact e
    clear hrow hbel HOP HTW HPW HIP NR NB N1 N2 HBID HH0
    go_wp2_with fail
    refine wRh 2 wG (by kernel_rfl) ?_
    simp only[tU,tJ,dJ,dY]
    repeat(go_big_quiet_step (fail))
    refine wqN ?_
    go_wp2_with fail
    have HP2:eO (V.drew.alloc (.cells #[.slice (some ⟨w.heap.size+1+1,0,none⟩) 64 64,.slice (some ⟨g,0,none⟩) 32 32] 22)) V.heap.size 0 2 [.slice (some ⟨w.heap.size+1+1,0,none⟩) 64 64,.slice (some ⟨g,0,none⟩) 32 32] [fV K 92 64,Bi]:=eO.two (w:=V.drew) (show eJ V _ _ from QO.out) (show eJ V _ _ from QI.out)
    obtain⟨V2,hV2⟩:∃x,x=(V.alloc (.cells #[.slice (some ⟨w.heap.size+1+1,0,none⟩) 64 64,.slice (some ⟨g,0,none⟩) 32 32] 22)).drew:=⟨_,rfl⟩
    have HP3:Hid (eO V2 V.heap.size 0 2 [.slice (some ⟨w.heap.size+1+1,0,none⟩) 64 64,.slice (some ⟨g,0,none⟩) 32 32] [fV K 92 64,Bi]):=by show eO _ _ _ _ _ _;rw[hV2];exact HP2
    have CB:Hid (Below w.heap.size w V2):=by show Below _ _ _;rw[hV2];exact bDr (QB.out.alloc QB.out.size _) 1
    have CR:Hid (V2.heap[w.heap.size]? =some (.cells (Iv .u8 (aA 32)) 25)):=by show _=_;rw[hV2];exact(hAO V _ (by omega)).trans QR.out
    have hs2:w.heap.size<V2.heap.size:=(Array.getElem?_eq_some_iff.1 CR.out).1
    rw[←hV2]
    clear hV2 HP2 QO QI QB QR Q1
    refine(qR [fV K 92 64,Bi] _ 2 2 V.heap.size 0 V2 HP3.out (by simp[cF,hBil]) (HT.out.later CB.out (nQ _)) Bo (by rw[show[fV K 92 64,Bi].flatten=fV K 92 64++Bi by simp];exact HFIN)).mono ?_
    rintro e w9 ⟨rfl,hb9⟩
    have GR9:Hid _:=(hb9.block w.heap.size hs2).trans CR.out
    have B9:Hid (Below w.heap.size w w9):=CB.out.trans (hb9.mono CB.out.size)
    clear hb9 CR CB HP3
    go_wp2_with(refine wpPr rfl 25 _ _ rfl w.heap.size (Iv .u8 Bo) rfl rfl _ _ GR9.out (hi32.out Bo hBo) (hz32.out Bo hBo) (aG _ _) ?_)
    intro W9 hP9
    go_wp2
    exact bodyPost_ret (v:=.agg (Iv .u8 Bo)) (results_cell_row rfl _ _ _ _ (Iv .u8 Bo) _ _ rfl hP9.here underlying25 rfl (hi32.out Bo hBo)) rfl ⟨rfl,hP9.below _ _ B9.out (nQ _)⟩
theorem rD {P:Program} {ops:Array Oper} {C:World→Prop} {Q:Act→Prop} {a:Act} {o:Oper} {rest:List Oper} (hgd:o.guard=none) (v:Value) (he:∀w,(execOp a.eval o).run P w=.ok (.value v) w) (h:wpQuiet P ops C Q rest (a.put o.dst v)):wpQuiet P ops C Q (o::rest) a:=by
 refine kJ hgd (v:=v) (fun w hw=>?_) h
 unfold Oper.quietAt
 rw[he w]
 exact⟨rfl,rfl⟩
def fF (R:LI):Nat→LI
 | 0=>fJ R [1]
 | j+1=>fJ R (fF R j++[(j:Int)+2])
theorem aY (R:LI) (j:Nat):(fF R j).length=32:=by cases j<;>exact nH _ _
def zK (R:LI):Nat→LI
 | 0=>[]
 | k+1=>zK R k++fF R k
theorem jY (R:LI):∀k,(zK R k).length=32*k
 | 0=>rfl
 | k+1=>by rw[zK,lQ,jY R k,aY];omega
def eU (R:LI) (n k:Nat):LI:=zK R k++aA (32*(n - k))
theorem yQ (R:LI) (n k:Nat) (h:k≤n):(eU R n k).length=32*n:=by rw[eU,lQ,jY];simp[aA];omega
theorem UW (R:LI) (n k:Nat) (h:k<n):(eU R n k).take (32*k)++fF R k++(eU R n k).drop (32*k+32)=eU R n (k+1):=by
 have e1:(eU R n k).take (32*k)=zK R k:=by
  unfold eU
  rw[List.take_append_of_le_length (by rw[jY];omega),List.take_of_length_le (by rw[jY];omega)]
 have e2:(eU R n k).drop (32*k+32)=aA (32*(n - (k+1))):=by
  unfold eU aA
  rw[List.drop_append,List.drop_eq_nil_of_le (by rw[jY];omega),nA,List.drop_replicate,jY]
  congr 1
  omega
 rw[e1,e2]
 rfl
theorem EL (R:LI) (n k:Nat) (h:k<n):((eU R n k).map (Value.int .u8)).take (32*k)++(fF R k).map (Value.int .u8)++((eU R n k).map (Value.int .u8)).drop (32*k+((fF R k).map (Value.int .u8)).length)=(eU R n (k+1)).map (Value.int .u8):=by
 rw[lU,aY,←UW R n k h,List.map_append,List.map_append,List.map_take,List.map_drop]
theorem QP (R:LI) (n k:Nat) (h:k<n) (j:Nat) (hj:j<32):(eU R n (k+1)).getD (32*k+j) 0=(fF R k).getD j 0:=by
 have hl:=jY R k
 have hk:=aY R k
 unfold eU zK
 simp only[List.getD_eq_getElem?_getD]
 rw[List.append_assoc,List.getElem?_append_right (by omega),List.getElem?_append_left (by omega)]
 congr 2
 omega
theorem fM (R:LI) (k:Nat):aC (fF R k):=by cases k<;>exact cC _
theorem UX {w:World} {g:Nat} {R:LI} {n k:Nat} {t:TypeId} (h:w.heap[g]? =some (.cells (Iv .u8 (eU R n (k+1))) t)) (hk:k<n):eJ w (.slice (some ⟨g,32*k,none⟩) 32 32) (fF R k):=
 ⟨_,_,_,rfl,aY R k,nQ _,by decide,fM R k,.inr ⟨g,32*k,rfl,fun j hj=>by
  rw[←QP R n k hk j hj]
  exact aE.cell (show aE w g .u8 _ t from h) (32*k+j) (by rw[yQ R n (k+1) (by omega)];omega)⟩⟩
theorem aaF (m:Nat):madeCells (Iv .u8 (aA 32)) m=Iv .u8 (aA m):=by
 have hs:(Iv .u8 (aA 32)).size=32:=by rw[aD];rfl
 apply Array.ext
 ·rw[size_madeCells,aD];simp[aA]
 ·intro i h1 h2
  have hi:i<m:=by rw[size_madeCells]at h1;exact h1
  have e2:=dG .u8 (aA m) i (by simp[aA];exact hi)
  rw[Array.getElem?_eq_getElem h2,Option.some.injEq]at e2
  rw[e2]
  simp only[madeCells,Array.getElem_map,Array.getElem_range]
  have hj:i%(Iv .u8 (aA 32)).size<(Iv .u8 (aA 32)).size:=Nat.mod_lt _ (by rw[hs];decide)
  rw[getElem!_pos (Iv .u8 (aA 32)) _ hj]
  have hz:∀j (h:j<(aA 32).length),(aA 32)[j]=0:=fun j h=>by unfold aA;exact List.getElem_replicate _
  have hz2:∀(h:i<(aA m).length),(aA m)[i]=0:=fun h=>by unfold aA;exact List.getElem_replicate _
  obtain⟨j,hjd⟩:∃j,j=i%(Iv .u8 (aA 32)).size:=⟨_,rfl⟩
  have hj':j<(aA 32).length:=by rw[hjd];rw[aD]at hj⊢;exact hj
  have e3:=dG .u8 (aA 32) j hj'
  simp only[←hjd]at hj⊢
  rw[Array.getElem?_eq_getElem hj,Option.some.injEq]at e3
  rw[e3,hz,hz2]
theorem ahN (n:Nat) (h:n≤3) (w:World):(Instr.makeSlice 42 (.int .i64 n) (.int .i64 n)).run prog w=.ok (.slice (some ⟨w.heap.size,0,none⟩) n n) (w.alloc (.cells (Iv .u8 (aA (32*n))) 25)):=by
 obtain⟨i,hi⟩:=info_of_underlying underlying25
 have h2:(prog.info? 25).map (fun i=>(i.zero,i.size,i.bytes))=some (some (.agg (Iv .u8 (aA 32))),32,32):=by kernel_rfl
 rw[hi]at h2
 simp only[Option.map_some,Option.some.injEq,Prod.mk.injEq]at h2
 rw[run_makeSlice (P:=prog) w _ _ i _ underlying42 hi h2.1 .i64 .i64 n n (by omega) (by omega) (by rw[h2.2.1];simp;omega) (by rw[h2.2.2];omega) (by omega),h2.2.1]
 show Result.ok _ (w.alloc (.cells (madeCells (Iv .u8 (aA 32)) _) _))=_
 rw[aaF,Int.toNat_natCast,Nat.mul_comm]
theorem QF (K D:LI) (kl:Nat) (hk64:¬64<kl) (hK:K.length=kl) (hKb:aC K) (hkl:kl≤5000000) (kb ko kcap:Nat) (hkcap:kl≤kcap) (hkcap2:kcap≤9223372036854775807) (a:Option Addr) (dl dcap:Nat) (w:World) (hkc:∀j,j<kl→w.cell? ⟨kb,ko+j,none⟩=some (.int .u8 (K.getD j 0))) (hkbs:kb<w.heap.size) (hv:eJ w (.slice a dl dcap) D) (hlen:D.length≤5000000) (ht:cN w) (n:Nat) (hn1:1≤n) (hn3:n≤2) (R:LI) (HR:Hid (∀x,fJ K D=x→x=R)):
 Calls prog 60 #[.int .i64 n,.slice (some ⟨kb,ko,none⟩) kl kcap,.slice a dl dcap] w fun e w'=>∃g,e=.returned (.slice (some ⟨g,0,none⟩) n n)∧w.heap.size≤g∧w'.heap[g]? =some (.cells (Iv .u8 (eU R n n)) 25)∧Below w.heap.size w w':=by
 have hzb:=dM
 have hmk:=ahN n (by omega)
 have HT:Hid _:=ht
 have HKC:Hid _:=hkc
 have HV:Hid _:=hv
 clear hkc hv ht
 have h1:((n:Int)<1)=False:=by simp;omega
 have h2:(3<(n:Int))=False:=by simp;omega
 have hRl:R.length=32:=by rw[←HR.out _ rfl];exact nH _ _
 have hRb:aC R:=by rw[←HR.out _ rfl];exact cC _
 have hi32:Hid (∀X:LI,X.length=32→(prog.info? 25).map (·.size)=some (Iv .u8 X).size):=fun X hX=>by rw[aD,hX];exact iD
 have hz32:Hid (∀X:LI,X.length=32→(Iv .u8 (aA 32)).size=(Iv .u8 X).size):=fun X hX=>by rw[aD,aD,hX];rfl
 go_enter func60,ntmps60
 go_wp2_with fail
 have HPP:eO (w.alloc (.cells #[.slice a dl dcap] 22)) w.heap.size 0 1 [.slice a dl dcap] [D]:=eO.one HV.out
 obtain⟨W,hW⟩:∃X,X=w.alloc (.cells #[.slice a dl dcap] 22):=⟨_,rfl⟩
 have HB:Hid (Below w.heap.size w W):=by show Below _ _ _;rw[hW];exact(Below.refl _ _).alloc (nQ _) _
 rw[←hW]at HPP⊢
 clear hW
 refine(uQ K kl hk64 hK hKb hkl kb ko kcap hkcap hkcap2 [D] [.slice a dl dcap] 1 1 w.heap.size 0 W (fun j hj=>(HB.out.cell (p:=⟨kb,ko+j,none⟩) (wJ _ _ (HKC.out j hj))).trans (HKC.out j hj)) (by have:=HB.out.size;omega) HPP (by simp;omega) (HT.out.later HB.out (nQ _)) R (by rw[show[D].flatten=D by simp];exact HR)).mono ?_
 rintro e w1 ⟨rfl,hb1⟩
 have B1:Hid _:=HB.out.trans (hb1.mono HB.out.size)
 have HN1:Hid ((w1.alloc (.cells (Iv .u8 (aA 32)) 25)).heap[w1.heap.size]? =some (.cells (Iv .u8 (aA 32)) 25)):=hAN _ _
 clear hb1 HB HPP HV HKC
 go_wp2_with(refine wpPr rfl 25 _ _ rfl w1.heap.size (Iv .u8 R) rfl rfl _ _ HN1.out (hi32.out R hRl) (hz32.out R hRl) (aG _ _) ?_)
 intro w2 hP2
 have B2:Hid _:=hP2.below _ _ (B1.out.alloc B1.out.size _) B1.out.size
 have A1:Hid _:=hP2.here
 have hs2:w1.heap.size<w2.heap.size:=by rw[hP2.size];simp
 have hg1:=B1.out.size
 obtain⟨gr,hgr⟩:∃x,x=w1.heap.size:=⟨_,rfl⟩
 rw[←hgr]at A1 hs2 hg1⊢
 clear hP2 HN1 B1 hgr
 go_wp2_with fail
 obtain⟨W3,hW3,g0,g1,g2,hs3,hB3⟩:=pL w2 (.cells (Iv .u8 (aA (32*n))) 25) (.cells #[.int .u8 1] 5) (.cells #[.slice (some ⟨w2.heap.size+1,0,none⟩) 1 1] 22)
 rw[hW3]
 clear hW3
 have B3:Hid _:=B2.out.trans (hB3.mono B2.out.size)
 have C1:Hid _:=(hB3.block gr (by omega)).trans A1.out
 have hg2:=B2.out.size
 obtain⟨gk,hgk⟩:∃x,x=w2.heap.size:=⟨_,rfl⟩
 rw[←hgk]at g0 g1 g2 hs3 hs2 hg2⊢
 have G0:Hid _:=g0
 have HPP:eO W3 (gk+1+1) 0 1 [.slice (some ⟨gk+1,0,none⟩) 1 1] [[1]]:=eO.row1 g2 (rC (zs:=[1]) g1 (by intro i;match i with|0=>exact⟨by decide,by decide⟩|i+1=>simp) (by decide))
 clear hgk g0 g1 g2 hB3 B2 A1
 refine(uQ R 32 (by decide) hRl hRb (by decide) gr 0 32 (nQ _) (by decide) [[1]] _ 1 1 (gk+1+1) 0 W3 (fun j hj=>by rw[Nat.zero_add];exact aE.cell (show aE W3 _ .u8 R _ from C1.out) j (by omega)) (by omega) HPP (by simp) (HT.out.later B3.out (nQ _)) (fF R 0) (fun x hx=>by rw[←hx];rfl)).mono ?_
 rintro e w4 ⟨rfl,hb4⟩
 have B4:Hid _:=B3.out.trans (hb4.mono B3.out.size)
 have D0:Hid _:=(hb4.block gk (by omega)).trans G0.out
 have D1:Hid _:=(hb4.block gr (by omega)).trans C1.out
 have hs4:gk<w4.heap.size:=by have:=hb4.size;omega
 clear hb4 HPP B3 C1 G0
 have hiK:Hid (∀k,(prog.info? 25).map (·.size)=some ((fF R k).map (Value.int .u8)).length):=fun k=>by rw[lU,aY];exact iD
 have hfK:Hid (∀k,k<n→32*k+((fF R k).map (Value.int .u8)).length≤((eU R n k).map (Value.int .u8)).length):=fun k hk=>by rw[lU,aY,lU,yQ R n k (by omega)];omega
 have hp0:(0<n)=True:=by simp;omega
 go_wp2_with(refine wpPp rfl 25 _ _ rfl gk 0 ((fF R 0).map (Value.int .u8)) rfl rfl ((eU R n 0).map (Value.int .u8)) 25 D0.out ((eU R n 1).map (Value.int .u8)) (hiK.out 0) (hfK.out 0 (by omega)) (by simp[Value.oneCell']) (EL R n 0 (by omega)) ?_)
 intro w5 hP5
 have B5:Hid _:=hP5.below _ _ B4.out (by omega)
 have E0:Hid _:=hP5.here
 have E1:Hid _:=(hP5.far gr (by omega)).trans D1.out
 have hs5:gk<w5.heap.size:=by rw[hP5.size];exact hs4
 clear hP5 B4 D0 D1
 go_wp2_with fail
 go_loopw [9] (fun i wr=>∃k:Nat,1≤k∧k≤n∧i=.int .i64 k∧Below w.heap.size w wr∧wr.heap[gr]? =some (.cells (Iv .u8 R) 25)∧wr.heap[gk]? =some (.cells (Iv .u8 (eU R n k)) 25)) (fun i _=>3 - (intOf i).toNat)
 case atStart=>exact⟨1,nQ _,hn1,rfl,B5.out,E1.out,E0.out⟩
 case round=>
  obtain⟨k,hk1,hk2,rfl,hbr,hr1,hr0⟩:=hrel
  clear B5 E0 E1
  by_cases hlt:k<n
  ·obtain⟨rfl,rfl⟩:k=1∧n=2:=by omega
   ·have RB:Hid _:=hbr
    have R1:Hid _:=hr1
    have R0:Hid _:=hr0
    have hsr:gk<wr.heap.size:=(Array.getElem?_eq_some_iff.1 hr0).1
    clear hbr hr1 hr0
    go_wp2_with fail
    have S0:∃x:yM wr.heap.size wr,wr.drew=x.w:=⟨⟨wr.drew,bDr (Below.refl _ _) 1⟩,rfl⟩
    refine wRt 15 (fun w'=>∃x:yM wr.heap.size wr,w'=x.w) (.held [0,1,2,3,4,5,6,7,8,9,10] (.tail 11 (.tail 12 (.tail 13 (.tail 14 (.last 15 .done)))))) wG (by kernel_rfl) S0 ?_
    simp only[bR,oS]
    refine rD rfl (.slice (some ⟨gk,0,none⟩) 2 2) (fun W'=>by kernel_rfl) ?_
    simp only[pS]
    refine rD rfl (.int .i64 ((1:Nat):Int)) (fun W'=>by kernel_rfl) ?_
    simp only[pS]
    refine rD rfl (.slice (some ⟨gr,0,none⟩) 32 32) (fun W'=>by kernel_rfl) ?_
    simp only[pS]
    refine rD rfl (.slice (some ⟨gk,0,none⟩) 2 2) (fun W'=>by kernel_rfl) ?_
    simp only[pS]
    refine rD rfl (.int .i64 ((1:Nat):Int)) (fun W'=>by kernel_rfl) ?_
    simp only[pS]
    refine rD rfl (.int .i64 0) (fun W'=>by kernel_rfl) ?_
    simp only[pS]
    refine rD rfl (.pointer (some ⟨gk,0,none⟩)) (fun W'=>by kernel_rfl) ?_
    simp only[pS]
    refine rD rfl (.slice (some ⟨gk,0,none⟩) 32 32) (fun W'=>by kernel_rfl) ?_
    simp only[pS]
    refine rD rfl (.int .i64 ((1:Nat):Int)) (fun W'=>by kernel_rfl) ?_
    simp only[pS]
    refine rD rfl (.int .i64 2) (fun W'=>by kernel_rfl) ?_
    simp only[pS]
    refine rD rfl (.int .u8 2) (fun W'=>by kernel_rfl) ?_
    simp only[pS]
    refine wqN ?_
    go_wp2_with fail
    refine⟨⟨⟨_,bDr ((Below.refl _ _).alloc (nQ _) _) 1⟩,rfl⟩,?_⟩
    go_wp2_with fail
    refine⟨⟨⟨_,bDr (((Below.refl _ _).alloc (nQ _) _).alloc (by simp) _) 1⟩,rfl⟩,?_⟩
    go_wp2_with fail
    have HP2:eO ((wr.drew.alloc (.cells #[.int .u8 2] 5)).alloc (.cells #[.slice (some ⟨gk,0,none⟩) 32 32,.slice (some ⟨wr.heap.size,0,none⟩) 1 1] 22)) (wr.drew.alloc (.cells #[.int .u8 2] 5)).heap.size 0 2 [.slice (some ⟨gk,0,none⟩) 32 32,.slice (some ⟨wr.heap.size,0,none⟩) 1 1] [fF R 0,[2]]:=
     eO.two (eJ.later (UX (k:=0) (show wr.drew.heap[gk]? =_ from R0.out) (by decide)) ((Below.refl wr.drew.heap.size wr.drew).alloc (nQ _) _) (nQ _)) (rC (zs:=[2]) (hAN wr.drew _) (by intro i;match i with|0=>exact⟨by decide,by decide⟩|i+1=>simp) (by decide))
    rw[wU]at HP2
    obtain⟨V,hV⟩:∃x,x=((wr.alloc (.cells #[.int .u8 2] 5)).alloc (.cells #[.slice (some ⟨gk,0,none⟩) 32 32,.slice (some ⟨wr.heap.size,0,none⟩) 1 1] 22)).drew:=⟨_,rfl⟩
    have HP3:Hid (eO V (wr.heap.size+1) 0 2 [.slice (some ⟨gk,0,none⟩) 32 32,.slice (some ⟨wr.heap.size,0,none⟩) 1 1] [fF R 0,[2]]):=by show eO _ _ _ _ _ _;rw[hV];exact HP2
    have VB:Hid (Below wr.heap.size wr V):=by show Below _ _ _;rw[hV];exact bDr (((Below.refl _ _).alloc (nQ _) _).alloc (by simp) _) 1
    rw[←hV]
    clear hV HP2
    have V0:Hid _:=(VB.out.block gk hsr).trans R0.out
    have V1:Hid _:=(VB.out.block gr (by omega)).trans R1.out
    have VW:Hid (Below w.heap.size w V):=RB.out.trans (VB.out.mono RB.out.size)
    have hsV:gk<V.heap.size:=by have:=VB.out.size;omega
    have HVB:Hid _:=VB.out
    clear VB RB R1 R0 S0
    refine(uQ R 32 (by decide) hRl hRb (by decide) gr 0 32 (nQ _) (by decide) [fF R 0,[2]] _ 2 2 (wr.heap.size+1) 0 V (fun j hj=>by rw[Nat.zero_add];exact aE.cell (show aE V _ .u8 R _ from V1.out) j (by omega)) (by omega) HP3.out (by simp[aY]) (HT.out.later VW.out (nQ _)) (fF R 1) (fun x hx=>by rw[←hx];simp[fF])).mono ?_
    rintro e w6 ⟨rfl,hb6⟩
    have X0:Hid _:=(hb6.block gk hsV).trans V0.out
    have X1:Hid _:=(hb6.block gr (by omega)).trans V1.out
    have XB:Hid _:=VW.out.trans (hb6.mono VW.out.size)
    have HBB:Hid _:=HVB.out.trans (hb6.mono HVB.out.size)
    clear hb6 HP3 V0 V1 VW HVB
    go_wp2_with fail
    refine⟨⟨⟨_,HBB.out⟩,rfl⟩,?_⟩
    go_wp2_with fail
    refine⟨⟨⟨_,HBB.out⟩,rfl⟩,?_⟩
    refine wpPp rfl 25 (.tmp 47) (.tmp 46) rfl gk 32 ((fF R 1).map (Value.int .u8)) rfl rfl ((eU R 2 1).map (Value.int .u8)) 25 X0.out ((eU R 2 2).map (Value.int .u8)) (hiK.out 1) (hfK.out 1 (by decide)) (by simp[Value.oneCell']) (EL R 2 1 (by decide)) ?_
    intro w7 hP7
    simp only[Act.put]
    have Y0:Hid _:=hP7.here
    have Y1:Hid _:=(hP7.far gr (by omega)).trans X1.out
    have YB:Hid _:=hP7.below _ _ XB.out (by omega)
    clear hP7 X0 X1 XB HBB
    go_wp2_with fail
    refine ET ?_
    go_wp2_with fail
    go_roundw
    case rel=>exact⟨_,_,_,_,_,_,_,_,_,_,_,_,_,_,_,_,_,_,_,_,_,⟨2,by decide,by decide,rfl,YB.out,Y1.out,Y0.out⟩,rfl⟩
    case measure=>simp[intOf]
  ·have hkn:k=n:=by omega
   subst hkn
   have RB:Hid _:=hbr
   have R0:Hid _:=hr0
   clear hbr hr1 hr0
   go_wp2
   go_ret
   exact⟨gk,rfl,by omega,R0.out,RB.out⟩
end Go.Proofs.YtmjccemdldidaaaGreatDoor
