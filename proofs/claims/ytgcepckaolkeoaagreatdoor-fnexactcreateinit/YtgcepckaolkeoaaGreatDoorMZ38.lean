import Derived.Test.YtgcepckaolkeoaaGreatDoorMZ37
import Derived.Test.YtgcepckaolkeoaaGreatDoorMZ35
namespace Go.Proofs.YtgcepckaolkeoaaGreatDoor
open Go.RowKit
open Go.Proofs.Tryz
open Go renaming wpList_load_row → wpLr, wpQuiet_nil → wqN
open Go.World renaming size_alloc → wU
open List renaming length_append → lQ, mem_cons_of_mem → mC, mem_cons_self → mQ
open Nat renaming le_refl → nQ
set_option linter.unusedVariables false
theorem dK {P:Program} {fn:Func} {p q:Tmp} {ty:TypeId} (h:fn.results=#[.cell p ty,.tmp q]) (tmps:Array Value) (w:World) (g:Nat) (t:TypeId) (cs:Array Value) (d:TypeDesc) (v:Value)
 (hp:tmps.getD p undef=.pointer (some ⟨g,0,none⟩)) (hq:tmps.getD q undef=v) (hg:w.heap[g]? =some (.cells cs t))
 (hu:P.underlying ty=some d) (hd:(match d with| .struct _| .array _ _=>true|_=>false)=true) (hi:(P.info? ty).map (·.size)=some cs.size):
 (results fn tmps).run P w=.ok (.tuple #[.agg cs,v]) w:=by
 have hp':tmps[p]?.getD undef=.pointer (some ⟨g,0,none⟩):=by simpa using hp
 have hq':tmps[q]?.getD undef=v:=by simpa using hq
 simp[results,h,hp',hq',asAddr,run_loadVar_row w g t ty cs _ d hg hu hd hi]
theorem aE.put {l:List Int} (h:aE l) (i:Nat) (v:Int) (hv:0≤v∧v≤255):aE (l.set i v):=by
 intro j
 have hj:=h j
 rw[List.getD_eq_getElem?_getD,List.getElem?_set]
 rw[List.getD_eq_getElem?_getD]at hj
 split
 ·split
  ·exact hv
  ·simp
 ·exact hj
def sG (p:List Int):List Int:=p.set 31 (p.getD 31 0%128)
theorem sI (p:List Int):(sG p).length=p.length:=by simp[sG]
theorem u6 (p:List Int) (h:aE p):aE (sG p):=h.put 31 _ (by have:=h 31;omega)
set_option maxRecDepth 100000 in
theorem ZK:∀x:Fin 256,bits .and .u8 (x.val:Int) 127=(x.val:Int)%128:=of_decide_eq_true (by kernel_rfl)
theorem WP (x:Int) (h:0≤x∧x≤255):bits .and .u8 x 127=x%128:=by
 have h1:=ZK ⟨x.toNat,by omega⟩
 have h2:((x.toNat:Nat):Int)=x:=by omega
 simp only[h2]at h1
 exact h1
set_option maxRecDepth 100000 in
theorem TP:∀x:Fin 256,0≤bits .and .u8 (x.val:Int) 248∧bits .and .u8 (x.val:Int) 248≤255:=of_decide_eq_true (by kernel_rfl)
set_option maxRecDepth 100000 in
theorem aaY:∀x:Fin 256,0≤bits .or .u8 (bits .and .u8 (x.val:Int) 127) 64∧bits .or .u8 (bits .and .u8 (x.val:Int) 127) 64≤255:=of_decide_eq_true (by kernel_rfl)
theorem KI (x:Int) (h:0≤x∧x≤255):∃y:Fin 256,x=(y.val:Int):=⟨⟨x.toNat,by omega⟩,by simp only;omega⟩
theorem I0 (l:List Int) (h:aE l):aE (kS l):=by
 unfold kS
 refine(h.put 0 _ ?_).put 31 _ ?_
 ·obtain⟨y,hy⟩:=KI _ (h 0)
  rw[hy]
  exact TP y
 ·obtain⟨y,hy⟩:=KI _ (h 31)
  rw[hy]
  exact aaY y
def EI (l:List Int) (n:Nat):Bool:=decide (mG l n=1)
def smN (l p:List Int):Int:=(mJ (EI l) (nB (sG p)) 255).x1*AR (mJ (EI l) (nB (sG p)) 255).z1 255
def xD (l p:List Int):List Int:=AQ (smN l p%pF) 32
theorem iF (l p:List Int):(xD l p).length=32:=wO _ _
def FK (l p:List Int):fZ:=cP l (nP (sG p)) 255
theorem abO (l p:List Int) (hp:p.length=32) (hb:aE p):Dg (nP (sG p))∧Dg (FK l p).x1∧Dg (FK l p).z1∧Dg (FK l p).x2∧Dg (FK l p).z2∧Dg (lF (FK l p).z1 255)∧Dg (fH (FK l p).x1 (lF (FK l p).z1 255))∧dN (fH (FK l p).x1 (lF (FK l p).z1 255))%pF=smN l p%pF:=by
 obtain⟨h1,h2⟩:=ME (sG p) (by rw[sI,hp]) (u6 p hb)
 have hu:kK (nP (sG p)) (nB (sG p)):=⟨h1,0,by omega⟩
 obtain⟨k1,k2,k3,k4⟩:=DR l (nP (sG p)) (nB (sG p)) hu 255
 have k5:=k2.pow 255
 have k6:=k1.mul k5
 refine⟨h1,k1.1,k2.1,k3.1,k4.1,k5.1,k6.1,?_⟩
 obtain⟨_,q,hq⟩:=k6
 have e:dN (fH (FK l p).x1 (lF (FK l p).z1 255))=smN l p - q*pF:=hq
 rw[e]
 exact Int.sub_mul_emod_self_right _ _ _
def smR (l p:List Int):fZ:=mT (kS l) (sV (sG p)) 255
theorem YR (q:fZ) (n:MS) (hx:OY q n) (m:Nat):fY (lO q.z1 m)∧bT (cW q.x1 (lO q.z1 m)) (n.x1*AR n.z1 m):=⟨(hx.z1.pow m).1,hx.x1.times (hx.z1.pow m)⟩
theorem abM (l p:List Int) (hl:l.length=32) (hlb:aE l) (hp:p.length=32) (hb:aE p):fY (sV (sG p))∧OY (smR l p) (mJ (EI l) (nB (sG p)) 255):=by
 have hu:=UG (sG p) (by rw[sI,hp]) (u6 p hb)
 have h:=PO (kS l) (sV (sG p)) (nB (sG p)) hu (EI l) (fun n hn=>by
  rw[QY l hl hlb n hn]
  unfold EI
  exact decide_eq_true_iff) 255 (nQ _)
 exact⟨hu.1,h⟩
def abN (l p:List Int) (m:Nat):Int:=(mJ (EI l) (nB (sG p)) 255).x1*AR (mJ (EI l) (nB (sG p)) 255).z1 m
theorem VX (l p:List Int):abN l p 255=smN l p:=rfl
set_option maxRecDepth 100000 in
theorem adK:∀x:Fin 256,bits .and .u8 (x.val:Int) 1=(x.val:Int)%2:=of_decide_eq_true (by kernel_rfl)
theorem Y6 (x:Int) (h:0≤x∧x≤255):bits .and .u8 x 1=x%2:=by
 have h1:=adK ⟨x.toNat,by omega⟩
 have h2:((x.toNat:Nat):Int)=x:=by omega
 simp only[h2]at h1
 exact h1
theorem PH {l:List Int} (h:l.length=5):∃a b c d e,l=[a,b,c,d,e]:=by
 match l,h with
 | [a,b,c,d,e],_=>exact⟨a,b,c,d,e,rfl⟩
theorem TY:prog.built 213 [(0,.agg (Iv .u64 [1,0,0,0,0]))]=some (Iv .u64 ([1,0,0,0,0]++[0,0,0,0,0])):=by kernel_rfl
theorem WT (x z:List Int) (hx:x.length=5) (hz:z.length=5):prog.built 213 [(0,.agg (Iv .u64 x)),(1,.agg (Iv .u64 z))]=some (Iv .u64 (x++z)):=by
 obtain⟨a,b,c,d,e,rfl⟩:=PH hx
 obtain⟨f,g,h,i,j,rfl⟩:=PH hz
 kernel_rfl
set_option maxRecDepth 100000 in
set_option maxHeartbeats 16000000 in
theorem N7 (k u:List Int) (hk:k.length=32) (hkb:aE k) (hu:fY u) (w:World):
 Calls prog 122 #[.agg (Iv .u8 k),.agg (Iv .u64 u)] w fun e w'=>e=.returned (.agg (Iv .u64 ((mT k u 255).x1++(mT k u 255).z1)))∧Below w.heap.size w w':=by
 have hzr:=OX
 have hb1:Hid _:=NH 1
 have hb2:Hid _:=TY
 have lu:Hid (u.length=5):=hu.length
 have hb3:Hid _:=WT u [1,0,0,0,0] lu.out rfl
 have lk:Hid (k.length=32):=hk
 have HL:Hid (∀m,J7 (mT k u m)):=fun m=>XV k u hu m
 have HU:Hid (fY u):=hu
 have l1:Hid (([1,0,0,0,0]++[0,0,0,0,0]:List Int).length=10):=rfl
 have l2:Hid ((u++[1,0,0,0,0]:List Int).length=10):=by show _=_;rw[lQ,lu.out];rfl
 have HBB:Hid (aE k):=hkb
 clear hu hk hkb
 have F0:Rn w [rR (w.heap.size+1+1) (aA 10),rE (w.heap.size+1) u,(w.heap.size,Iv .u8 k,22)] (((w.alloc (.cells (Iv .u8 k) 22)).alloc (.cells (Iv .u64 u) 211)).alloc (.cells (Iv .u64 (aA 10)) 213)):=((((Rn.start w).alloc' w.heap.size (by first|rfl|simp only[wU]) _ _).alloc' (w.heap.size+1) (by first|rfl|simp only[wU]) _ _).alloc' (w.heap.size+1+1) (by first|rfl|simp only[wU]) _ _)
 obtain⟨W,hW⟩:∃W,(((w.alloc (.cells (Iv .u8 k) 22)).alloc (.cells (Iv .u64 u) 211)).alloc (.cells (Iv .u64 (aA 10)) 213))=W:=⟨_,rfl⟩
 rw[hW]at F0
 have F:Hid (Rn w [rR (w.heap.size+1+1) (aA 10),rE (w.heap.size+1) u,(w.heap.size,Iv .u8 k,22)] W):=F0
 have HW:Hid _:=hW
 clear hW F0
 go_enter func122,ntmps122
 go_wp2_with fail
 rw[HW.out]
 clear HW
 have FD:Hid _:=F.out.drew
 clear F
 refine wRt 8 (fun w'=>∃x:Wp (fun v=>Rn w [rR (w.heap.size+1+1) (aA 10),rE (w.heap.size+1) u,(w.heap.size,Iv .u8 k,22)] v),w'=x.w) (.held [0,1,2,3,4] (.fork 5 (.tail 6 (.tail 7 (.last 8 .done))) 6 (.tail 5 (.tail 7 (.last 8 .done))))) kJ (by kernel_rfl) ⟨⟨_,FD.out⟩,rfl⟩ ?_
 obtain⟨V,eV⟩:∃V,V=W.drew:=⟨_,rfl⟩
 rw[←eV]at FD⊢
 clear eV
 refine wTh ?_
 simp only[oS]
 refine bZ rfl 211 _ rfl (Iv .u64 [1,0,0,0,0]) _ (by kernel_rfl) hb1.out ?_
 simp only[pS]
 refine bZ rfl 213 _ rfl (Iv .u64 ([1,0,0,0,0]++[0,0,0,0,0])) _ (by kernel_rfl) hb2.out ?_
 simp only[pS]
 refine wqLr rfl 211 _ rfl (w.heap.size+1) rfl _ (Iv .u64 u) _ _ (fun w' hw'=>by obtain⟨x,rfl⟩:=hw';exact x.p.at (mC _ mQ)) underlying211 rfl (aZ lu.out) ?_
 simp only[pS]
 refine bZ rfl 211 _ rfl (Iv .u64 [1,0,0,0,0]) _ (by kernel_rfl) hb1.out ?_
 simp only[pS]
 refine bZ rfl 213 _ rfl (Iv .u64 (u++[1,0,0,0,0])) _ (by kernel_rfl) hb3.out ?_
 simp only[pS]
 refine wqN ?_
 apply iE (.tail 7 (.last 8 .done)) (fun c0 c1 v=>Rn w [rR c1 (aA 10),rR c0 (aA 10),rR (w.heap.size+1+1) (aA 10),rE (w.heap.size+1) u,(w.heap.size,Iv .u8 k,22)] v)
 intro h011
 apply aW (.tail 5 (.tail 7 (.last 8 .done))) (fun c1 v=>Rn w [rR c1 (aA 10),rR (w.heap.size+1+1) (aA 10),rE (w.heap.size+1) u,(w.heap.size,Iv .u8 k,22)] v)
 intro h001
 apply aW (.tail 6 (.tail 7 (.last 8 .done))) (fun c0 v=>Rn w [rR c0 (aA 10),rR (w.heap.size+1+1) (aA 10),rE (w.heap.size+1) u,(w.heap.size,Iv .u8 k,22)] v)
 intro h010
 have H:Hid _:=FD.out
 ·skip
  refine wTf ?_ ?_
  ·skip
   simp only[oS]
   go_wp2_with fail
   have H2:=H.out.alloc (Iv .u64 (aA 10)) 213
   refine⟨⟨⟨_,H2.tail⟩,rfl⟩,?_⟩
   obtain⟨c0,ec⟩:∃c,c=V.heap.size:=⟨_,rfl⟩
   rw[←ec]at H2⊢
   have H3:=H2
   exact h010.out c0 _ H3
  ·skip
   simp only[oS]
   go_wp2_with fail
   have H2:=H.out.alloc (Iv .u64 (aA 10)) 213
   refine⟨⟨⟨_,H2.tail⟩,rfl⟩,?_⟩
   obtain⟨c1,ec⟩:∃c,c=V.heap.size:=⟨_,rfl⟩
   rw[←ec]at H2⊢
   have H3:=H2
   exact h001.out c1 _ H3
 ·skip
  intro c0 v H0
  have H:Hid _:=H0
  clear H0
  refine wTt ?_
  simp only[oS]
  go_wp2_with fail
  have H2:=H.out.alloc (Iv .u64 (aA 10)) 213
  refine⟨⟨⟨_,H2.tail.tail⟩,rfl⟩,?_⟩
  obtain⟨c1,ec⟩:∃c,c=v.heap.size:=⟨_,rfl⟩
  rw[←ec]at H2⊢
  have H3:=H2
  exact h011.out c0 c1 _ H3
 ·skip
  intro c1 v H0
  have H:Hid _:=H0
  clear H0
  refine wTt ?_
  simp only[oS]
  go_wp2_with fail
  have H2:=H.out.alloc (Iv .u64 (aA 10)) 213
  refine⟨⟨⟨_,H2.tail.tail⟩,rfl⟩,?_⟩
  obtain⟨c0,ec⟩:∃c,c=v.heap.size:=⟨_,rfl⟩
  rw[←ec]at H2⊢
  have H3:=H2.two
  exact h011.out c0 c1 _ H3
 intro b1 b2 v0 H0
 have H:Hid _:=H0
 clear H0
 try clear FD
 have F:Hid _:=H.out
 clear H
 refine wTt ?_
 simp only[oS]
 have KA:Hid _:=F.out.at (mC _ mQ)
 go_wp2_with(refine wpPr rfl 213 _ _ rfl b1 (Iv .u64 ([1,0,0,0,0]++[0,0,0,0,0])) rfl rfl _ _ KA.out (dB l1.out) (zM l1.out) (aH _ _) (fun v2 hP=>sH ?_))
 refine aG ?_
 have F1:Hid _:=F.out.put1 hP
 clear hP KA F
 have F:Hid _:=F1.out
 clear F1
 go_wp2_with fail
 refine⟨⟨⟨_,F.out.tail.tail⟩,rfl⟩,?_⟩
 refine wTl ?_
 simp only[oS]
 have KA:Hid _:=F.out.at mQ
 go_wp2_with(refine wpPr rfl 213 _ _ rfl b2 (Iv .u64 (u++[1,0,0,0,0])) rfl rfl _ _ KA.out (dB l2.out) (zM l2.out) (aH _ _) (fun v3 hP=>sH ?_))
 refine aG ?_
 have F1:Hid _:=F.out.put0 hP
 clear hP KA F
 have F:Hid _:=F1.out
 clear F1
 refine bN ?_
 have F5:Hid (Rn w [(b2,Iv .u64 ((mT k u 0).x2++(mT k u 0).z2),213),(b1,Iv .u64 ((mT k u 0).x1++(mT k u 0).z1),213),((w.heap.size+1+1),Iv .u64 (aA 10),213),((w.heap.size+1),Iv .u64 u,211),(w.heap.size,Iv .u8 k,22)] v3):=F.out
 clear F hb1 hb2 hb3 l1 l2
 go_wp2_with fail
 go_loopw [7] (fun i wr=>∃(j:Int) (m:Nat),j+m=254∧m≤255∧i=.int .i64 j∧Rn w [(b2,Iv .u64 ((mT k u m).x2++(mT k u m).z2),213),(b1,Iv .u64 ((mT k u m).x1++(mT k u m).z1),213),((w.heap.size+1+1),Iv .u64 (aA 10),213),((w.heap.size+1),Iv .u64 u,211),(w.heap.size,Iv .u8 k,22)] wr) (fun i _=>(intOf i+1).toNat)
 case atStart=>exact⟨254,0,by decide,by decide,rfl,F5.out⟩
 case round=>
  obtain⟨j,m,hjm,hm,rfl,hF⟩:=hrel
  by_cases hj:0≤j
  ·obtain⟨n,rfl⟩:∃n:Nat,j=n:=⟨j.toNat,by omega⟩
   have hn:(n:Int)≤254:=by omega
   have hm9:254 - m=n:=by omega
   have QL:Hid (J7 (mT k u m)):=HL.out m
   have EL1:Hid (mT k u (m+1)=_):=rfl
   obtain⟨q,eq⟩:∃q,mT k u m=q:=⟨_,rfl⟩
   have ELS:Hid (mT k u (m+1)=if k.getD (n / 8) 0 / 2^(n%8)%2=1 then DY (mL u (DY q))else mL u q):=by show _=_;rw[mT,hm9,eq]
   clear EL1
   rw[eq]at hF QL
   clear eq
   obtain⟨x1,z1,x2,z2⟩:=q
   have lx1:Hid (x1.length=5):=QL.out.x1.length
   have lz1:Hid (z1.length=5):=QL.out.z1.length
   have lx2:Hid (x2.length=5):=QL.out.x2.length
   have lz2:Hid (z2.length=5):=QL.out.z2.length
   have l1:Hid ((x1++z1).length=10):=by show _=_;rw[lQ,lx1.out,lz1.out]
   have l2:Hid ((x2++z2).length=10):=by show _=_;rw[lQ,lx2.out,lz2.out]
   have F:Hid _:=hF
   clear hF F5
   have hc:=aB.cell (show aB _ w.heap.size .u8 k 22 from F.out.at (mC _ (mC _ (mC _ (mC _ mQ))))) (n / 8) (by rw[lk.out];omega)
   have hcb:=HBB.out (n / 8)
   have hq:((n / 8:Nat):Int)=(n:Int) / 8:=by omega
   have hr:((n%8:Nat):Int)=(n:Int)%8:=by omega
   obtain⟨z,ez⟩:∃z,k.getD (n / 8) 0=z:=⟨_,rfl⟩
   rw[ez]at hc hcb ELS
   clear ez
   have HP:Hid (0≤z / 2^(n%8)∧z / 2^(n%8)≤255):=VE z (n%8) hcb
   by_cases hbit:z / 2^(n%8)%2=1
   ·have hbe:(bits .and .u8 (z / 2^(n%8)) 1==1)=true:=by rw[Y6 _ HP.out,hbit];rfl
    rw[if_pos hbit]at ELS
    clear hbit
    have G0:Hid _:=F.out.at mQ
    have G1:Hid _:=F.out.at (mC _ mQ)
    have hs9:Hid ((Iv .u64 (x1++z1)).size=(Iv .u64 (x2++z2)).size):=by show _=_;rw[aC,aC,l1.out,l2.out]
    go_wp2_with(first
     | refine wpLr rfl 213 _ rfl b2 rfl _ (Iv .u64 (x2++z2)) _ _ G0.out underlying213 rfl (dB l2.out) ?_
     | refine wpLr rfl 213 _ rfl b1 rfl _ (Iv .u64 (x1++z1)) _ _ G1.out underlying213 rfl (dB l1.out) ?_
     | refine wpPr rfl 213 _ _ rfl b1 (Iv .u64 (x2++z2)) rfl rfl _ _ G1.out (dB l2.out) hs9.out (aH _ _) (fun v5 hP=>sH ?_))
    refine aG ?_
    have F1:Hid _:=F.out.put1 hP
    clear hP G0 G1 F
    have F:Hid _:=F1.out
    clear F1
    have G0:Hid _:=F.out.at mQ
    go_wp2_with(refine wpPr rfl 213 _ _ rfl b2 (Iv .u64 (x1++z1)) rfl rfl _ _ G0.out (dB l1.out) hs9.out.symm (aH _ _) (fun v6 hP=>sH ?_))
    refine aG ?_
    have F1:Hid _:=F.out.put0 hP
    clear hP G0 F hs9
    have F:Hid _:=F1.out
    clear F1
    have CS:Hid (∀W,_):=fun W=>tP u x2 z2 x1 z1 HU.out QL.out.x2 QL.out.z2 QL.out.x1 QL.out.z1 W
    have HS:Hid (J7 (mL u ⟨x2,z2,x1,z1⟩)):=J7.step HU.out ⟨QL.out.x2,QL.out.z2,QL.out.x1,QL.out.z1⟩
    obtain⟨s,es⟩:∃s,mL u ⟨x2,z2,x1,z1⟩=s:=⟨_,rfl⟩
    rw[es]at CS HS
    have ES:Hid _:=es
    clear es
    obtain⟨y1,t1,y2,t2⟩:=s
    have m1:Hid ((y1++t1).length=10):=by show _=_;rw[lQ,HS.out.x1.length,HS.out.z1.length]
    have m2:Hid ((y2++t2).length=10):=by show _=_;rw[lQ,HS.out.x2.length,HS.out.z2.length]
    have G0:Hid _:=F.out.at (mC _ mQ)
    have G1:Hid _:=F.out.at mQ
    have G2:Hid _:=F.out.at (mC _ (mC _ (mC _ mQ)))
    go_wp2_with(with_reducible refine aI ?_;first
     | refine wpLr rfl 213 _ rfl b1 rfl _ (Iv .u64 (x2++z2)) _ _ G0.out underlying213 rfl (dB l2.out) ?_
     | refine wpLr rfl 213 _ rfl b2 rfl _ (Iv .u64 (x1++z1)) _ _ G1.out underlying213 rfl (dB l1.out) ?_
     | refine wpLr rfl 211 _ rfl (w.heap.size+1) rfl _ (Iv .u64 u) _ _ G2.out underlying211 rfl (aZ lu.out) ?_)
    clear G0 G1 G2
    refine(CS.out _).mono ?_
    rintro e9 v7 ⟨rfl,hb⟩
    have F1:Hid _:=F.out.later hb (nQ _)
    clear hb F CS
    have F:Hid _:=F1.out
    clear F1
    have G0:Hid _:=F.out.at (mC _ mQ)
    have hs9:Hid ((Iv .u64 (x2++z2)).size=(Iv .u64 (y1++t1)).size):=by show _=_;rw[aC,aC,l2.out,m1.out]
    go_wp2_with(refine wpPr rfl 213 _ _ rfl b1 (Iv .u64 (y1++t1)) rfl rfl _ _ G0.out (dB m1.out) hs9.out (aH _ _) (fun v8 hP=>sH ?_))
    refine aG ?_
    have F1:Hid _:=F.out.put1 hP
    clear hP G0 F hs9
    have F:Hid _:=F1.out
    clear F1
    have G0:Hid _:=F.out.at mQ
    have hs9:Hid ((Iv .u64 (x1++z1)).size=(Iv .u64 (y2++t2)).size):=by show _=_;rw[aC,aC,l1.out,m2.out]
    go_wp2_with(refine wpPr rfl 213 _ _ rfl b2 (Iv .u64 (y2++t2)) rfl rfl _ _ G0.out (dB m2.out) hs9.out (aH _ _) (fun v9 hP=>sH ?_))
    refine aG ?_
    have F1:Hid _:=F.out.put0 hP
    clear hP G0 F hs9
    have F:Hid _:=F1.out
    clear F1
    have G0:Hid _:=F.out.at mQ
    have G1:Hid _:=F.out.at (mC _ mQ)
    have hs9:Hid ((Iv .u64 (y1++t1)).size=(Iv .u64 (y2++t2)).size):=by show _=_;rw[aC,aC,m1.out,m2.out]
    go_wp2_with(first
     | refine wpLr rfl 213 _ rfl b2 rfl _ (Iv .u64 (y2++t2)) _ _ G0.out underlying213 rfl (dB m2.out) ?_
     | refine wpLr rfl 213 _ rfl b1 rfl _ (Iv .u64 (y1++t1)) _ _ G1.out underlying213 rfl (dB m1.out) ?_
     | refine wpPr rfl 213 _ _ rfl b1 (Iv .u64 (y2++t2)) rfl rfl _ _ G1.out (dB m2.out) hs9.out (aH _ _) (fun v10 hP=>sH ?_))
    refine aG ?_
    have F1:Hid _:=F.out.put1 hP
    clear hP G0 G1 F
    have F:Hid _:=F1.out
    clear F1
    have G0:Hid _:=F.out.at mQ
    go_wp2_with(refine wpPr rfl 213 _ _ rfl b2 (Iv .u64 (y1++t1)) rfl rfl _ _ G0.out (dB m1.out) hs9.out.symm (aH _ _) (fun v11 hP=>sH ?_))
    refine aG ?_
    have F1:Hid _:=F.out.put0 hP
    clear hP G0 F hs9
    have F:Hid _:=F1.out
    clear F1
    go_wp2
    go_roundw
    case rel=>exact⟨(n:Int) - 1,m+1,by omega,by omega,by go_num,by rw[ELS.out];unfold DY;rw[ES.out];exact F.out⟩
    case measure=>simp[intOf]
   ·have hbe:(bits .and .u8 (z / 2^(n%8)) 1==1)=false:=by
     rw[Y6 _ HP.out]
     have h9:z / 2^(n%8)%2=0:=by omega
     rw[h9]
     rfl
    rw[if_neg hbit]at ELS
    clear hbit
    have CS:Hid (∀W,_):=fun W=>tP u x1 z1 x2 z2 HU.out QL.out.x1 QL.out.z1 QL.out.x2 QL.out.z2 W
    have HS:Hid (J7 (mL u ⟨x1,z1,x2,z2⟩)):=J7.step HU.out ⟨QL.out.x1,QL.out.z1,QL.out.x2,QL.out.z2⟩
    obtain⟨s,es⟩:∃s,mL u ⟨x1,z1,x2,z2⟩=s:=⟨_,rfl⟩
    rw[es]at CS HS
    have ES:Hid _:=es
    clear es
    obtain⟨y1,t1,y2,t2⟩:=s
    have m1:Hid ((y1++t1).length=10):=by show _=_;rw[lQ,HS.out.x1.length,HS.out.z1.length]
    have m2:Hid ((y2++t2).length=10):=by show _=_;rw[lQ,HS.out.x2.length,HS.out.z2.length]
    have G0:Hid _:=F.out.at (mC _ mQ)
    have G1:Hid _:=F.out.at mQ
    have G2:Hid _:=F.out.at (mC _ (mC _ (mC _ mQ)))
    go_wp2_with(with_reducible refine aI ?_;first
     | refine wpLr rfl 213 _ rfl b1 rfl _ (Iv .u64 (x1++z1)) _ _ G0.out underlying213 rfl (dB l1.out) ?_
     | refine wpLr rfl 213 _ rfl b2 rfl _ (Iv .u64 (x2++z2)) _ _ G1.out underlying213 rfl (dB l2.out) ?_
     | refine wpLr rfl 211 _ rfl (w.heap.size+1) rfl _ (Iv .u64 u) _ _ G2.out underlying211 rfl (aZ lu.out) ?_)
    clear G0 G1 G2
    refine(CS.out _).mono ?_
    rintro e9 v12 ⟨rfl,hb⟩
    have F1:Hid _:=F.out.later hb (nQ _)
    clear hb F CS
    have F:Hid _:=F1.out
    clear F1
    have G0:Hid _:=F.out.at (mC _ mQ)
    have hs9:Hid ((Iv .u64 (x1++z1)).size=(Iv .u64 (y1++t1)).size):=by show _=_;rw[aC,aC,l1.out,m1.out]
    go_wp2_with(refine wpPr rfl 213 _ _ rfl b1 (Iv .u64 (y1++t1)) rfl rfl _ _ G0.out (dB m1.out) hs9.out (aH _ _) (fun v13 hP=>sH ?_))
    refine aG ?_
    have F1:Hid _:=F.out.put1 hP
    clear hP G0 F hs9
    have F:Hid _:=F1.out
    clear F1
    have G0:Hid _:=F.out.at mQ
    have hs9:Hid ((Iv .u64 (x2++z2)).size=(Iv .u64 (y2++t2)).size):=by show _=_;rw[aC,aC,l2.out,m2.out]
    go_wp2_with(refine wpPr rfl 213 _ _ rfl b2 (Iv .u64 (y2++t2)) rfl rfl _ _ G0.out (dB m2.out) hs9.out (aH _ _) (fun v14 hP=>sH ?_))
    refine aG ?_
    have F1:Hid _:=F.out.put0 hP
    clear hP G0 F hs9
    have F:Hid _:=F1.out
    clear F1
    go_wp2
    go_roundw
    case rel=>exact⟨(n:Int) - 1,m+1,by omega,by omega,by go_num,by rw[ELS.out,ES.out];exact F.out⟩
    case measure=>simp[intOf]
  ·obtain rfl:j= -1:=by omega
   obtain rfl:m=255:=by omega
   obtain⟨q,eq⟩:∃q,mT k u 255=q:=⟨_,rfl⟩
   have QL:Hid (J7 q):=by show J7 q;rw[←eq];exact HL.out 255
   rw[eq]at hF
   have EQ:Hid _:=eq
   clear eq F5 HL
   have F:Hid _:=hF
   clear hF
   obtain⟨x1,z1,x2,z2⟩:=q
   have l1:Hid ((x1++z1).length=10):=by show _=_;rw[lQ,QL.out.x1.length,QL.out.z1.length]
   have G0:Hid _:=F.out.at (mC _ mQ)
   have G1:Hid _:=F.out.at (mC _ (mC _ mQ))
   go_wp2_with(first
    | refine wpLr rfl 213 _ rfl b1 rfl _ (Iv .u64 (x1++z1)) _ _ G0.out underlying213 rfl (dB l1.out) ?_
    | refine wpPr rfl 213 _ _ rfl (w.heap.size+1+1) (Iv .u64 (x1++z1)) rfl rfl _ _ G1.out (dB l1.out) (zM l1.out) (aH _ _) (fun Z9 hP=>sH ?_))
   refine aG ?_
   have F1:Rn w [rR b2 (x2++z2),rR b1 (x1++z1),rR (w.heap.size+1+1) (x1++z1),rE (w.heap.size+1) u,(w.heap.size,Iv .u8 k,22)] Z9:=Rn.putK (R1:=[rR b2 (x2++z2),rR b1 (x1++z1)]) (R2:=[rE (w.heap.size+1) u,(w.heap.size,Iv .u8 k,22)]) F.out hP
   have B9:=F1.bel
   have M1:=F1.at (mC _ (mC _ mQ))
   clear F1 hP F G0 G1
   have HV:Hid ((mT k u 255).x1++(mT k u 255).z1=x1++z1):=by show _=_;rw[EQ.out]
   obtain⟨r,er⟩:∃x,x1++z1=x:=⟨_,rfl⟩
   rw[er]at HV M1 l1
   clear er EQ QL
   go_wp2
   exact bodyPost_ret (v:=.agg (Iv .u64 r)) (results_cell_row rfl _ _ _ _ (Iv .u64 r) _ _ rfl M1 underlying213 rfl (dB l1.out)) rfl ⟨by rw[HV.out],B9⟩
end Go.Proofs.YtgcepckaolkeoaaGreatDoor
