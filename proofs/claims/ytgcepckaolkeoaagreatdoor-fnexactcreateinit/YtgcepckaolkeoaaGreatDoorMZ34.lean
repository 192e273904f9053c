import Derived.Test.YtgcepckaolkeoaaGreatDoorMZ33
namespace Go.Proofs.YtgcepckaolkeoaaGreatDoor
open Go.RowKit
open Go.Proofs.Tryz
open Go renaming heap_alloc_new → hAN, wpList_load_row → wpLr, wpQuiet_nil → wqN
open List renaming length_append → lQ, length_map → lU, mem_cons_of_mem → mC, mem_cons_self → mQ, nil_append → nA, not_mem_nil → nY, take_zero → tJ
open Nat renaming le_refl → nQ
set_option linter.unusedVariables false
def lO (l:List Int):Nat→List Int
 | 0=>[1,0,0,0,0]
 | m+1=>if 254 - m=2∨254 - m=4 then cW (lO l m) (lO l m)else cW (cW (lO l m) (lO l m)) l
theorem iX (n:Int) (h:0≤n∧n<2251799813685248):bT [n,0,0,0,0] n:=by
 refine⟨⟨by omega,by decide,by decide,by decide,by decide⟩,0,?_⟩
 show mD n 0 0 0 0=_
 unfold mD
 omega
theorem NH (v:Int):prog.built 211 [(0,.int .u64 v)]=some (Iv .u64 [v,0,0,0,0]):=by kernel_rfl
theorem WF:∀W,(zeroValue 211).run prog W=.ok (.agg (Iv .u64 [0,0,0,0,0])) W:=(zero_of_info (n:=5) (by kernel_rfl)).1
theorem XA (j:Int) (h0:0≤j) (h1:j≤254) (h2:j≠2) (h3:j≠4):bits .and .u64 (20 / 2^min j.toNat 64) 1=0:=by
 obtain⟨n,rfl⟩:∃n:Nat,j=n:=⟨j.toNat,by omega⟩
 rw[Int.toNat_natCast]
 by_cases h:n<5
 ·have h5:n=0∨n=1∨n=3:=by omega
  rcases h5 with rfl|rfl|rfl<;>exact of_decide_eq_true (by kernel_rfl)
 ·have hp:(20:Int) / 2^min n 64=0:=by
   refine Int.ediv_eq_zero_of_lt (by decide) ?_
   obtain⟨r,hr⟩:∃r,min n 64=5+r:=⟨min n 64 - 5,by omega⟩
   rw[hr,Int.pow_add]
   have:(0:Int)<2^r:=Int.pow_pos (by decide)
   omega
  rw[hp]
  exact of_decide_eq_true (by kernel_rfl)
theorem bT.pow {l:List Int} {x:Int} (h:bT l x):∀m,bT (lO l m) (AR x m)
 | 0=>iX 1 (by decide)
 | m+1=>by
   have ih:=bT.pow h m
   unfold lO AR
   split
   ·exact ih.times ih
   ·exact(ih.times ih).times h
theorem RJ {l:List Int} {m:Nat} (h:254 - m=2∨254 - m=4):lO l (m+1)=cW (lO l m) (lO l m):=by rw[lO,if_pos h]
theorem RI {l:List Int} {m:Nat} (h:¬(254 - m=2∨254 - m=4)):lO l (m+1)=cW (cW (lO l m) (lO l m)) l:=by rw[lO,if_neg h]
theorem XP {l:List Int} (h:fY l) (m:Nat):fY (lO l m):=(((show bT l (vL l)from⟨h,0,by omega⟩)).pow m).1
set_option maxRecDepth 10000 in
set_option maxHeartbeats 4000000 in
theorem LF (a:List Int) (ha:fY a) (w:World):
 Calls prog 125 #[.agg (Iv .u64 a)] w fun e w'=>e=.returned (.agg (Iv .u64 (lO a 255)))∧Below w.heap.size w w':=by
 have hzv:=WF
 have hi:Hid (∀l:List Int,l.length=5→(prog.info? 211).map (·.size)=some (Iv .u64 l).size):=fun l hl=>aZ hl
 have HA:Hid (fY a):=ha
 have HF:Hid _:=fun m=>XP ha m
 have hal:Hid (a.length=5):=ha.length
 clear ha
 have hlen:Hid (∀m,(lO a m).length=5):=fun m=>(HF.out m).length
 have hbu:=NH 1
 obtain⟨W,hW,g0,g1,g2,hsz,hB⟩:=oW w (.cells (Iv .u64 a) 211) (.cells (Iv .u64 [0,0,0,0,0]) 211) (.cells (Iv .u64 [0,0,0,0,0]) 211)
 have F0:Hid (Rw w [((w.heap.size+1+1),Iv .u64 [0,0,0,0,0],211),((w.heap.size+1),Iv .u64 [0,0,0,0,0],211),(w.heap.size,Iv .u64 a,211)] W):=
  ⟨hB,fun r hr=>by
   simp only[List.mem_cons,nY,or_false]at hr
   rcases hr with rfl|rfl|rfl
   ·exact⟨by simp only;omega,by simp only;omega,g2⟩
   ·exact⟨by simp only;omega,by simp only;omega,g1⟩
   ·exact⟨by simp only;omega,by simp only;omega,g0⟩⟩
 have HW:Hid _:=hW
 have KA:Hid ((((w.alloc (.cells (Iv .u64 a) 211)).alloc (.cells (Iv .u64 [0,0,0,0,0]) 211)).alloc (.cells (Iv .u64 [0,0,0,0,0]) 211)).heap[(w.heap.size+1+1)]? =some (.cells (Iv .u64 [0,0,0,0,0]) 211)):=by show _=_;rw[hW];exact g2
 clear hW g0 g1 g2 hB hsz
 go_enter func125,ntmps125
 go_wp2_with(refine wpPr rfl 211 _ _ rfl (w.heap.size+1+1) (Iv .u64 [1,0,0,0,0]) rfl rfl _ _ KA.out (hi.out _ rfl) (IN rfl) (aH _ _) (fun W1 hP=>sH ?_))
 refine aG ?_
 have F1:Hid (Rw w [((w.heap.size+1+1),Iv .u64 (lO a 0),211),((w.heap.size+1),Iv .u64 [0,0,0,0,0],211),(w.heap.size,Iv .u64 a,211)] W1):=by
  rw[HW.out]at hP
  exact Rw.put F0.out hP (fun r hr=>by simp only[List.mem_cons,nY,or_false]at hr;rcases hr with rfl|rfl<;>(simp only;omega))
 clear hP F0 KA HW hbu
 go_wp2_with fail
 go_loopw [4] (fun i wr=>∃(j:Int) (m:Nat),j+m=254∧m≤255∧i=.int .i64 j∧Rw w [((w.heap.size+1+1),Iv .u64 (lO a m),211),((w.heap.size+1),Iv .u64 [0,0,0,0,0],211),(w.heap.size,Iv .u64 a,211)] wr) (fun i _=>(intOf i+1).toNat)
 case atStart=>exact⟨254,0,by decide,by decide,rfl,F1.out⟩
 case round=>
  obtain⟨j,m,hjm,hm,rfl,hF⟩:=hrel
  have F2:Hid _:=hF
  clear hF F1
  by_cases hj:0≤j
  ·have hj2:j≤254:=by omega
   have HP:Hid _:=HF.out m
   obtain⟨p,ep⟩:∃x,lO a m=x:=⟨_,rfl⟩
   have hpl:Hid (p.length=5):=by show _=_;rw[←ep];exact hlen.out m
   rw[ep]at F2 HP
   have EP:Hid _:=ep
   clear ep
   have G2:Hid _:=(F2.out.row _ mQ).2.2
   go_wp2_with(with_reducible refine aI ?_;refine wpLr rfl 211 _ rfl (w.heap.size+1+1) rfl _ (Iv .u64 p) _ _ G2.out underlying211 rfl (hi.out p hpl.out) ?_)
   refine(fX p p HP.out HP.out _).mono ?_
   rintro e Z ⟨rfl,hb⟩
   have F3:Hid (Rw w [((w.heap.size+1+1),Iv .u64 p,211),((w.heap.size+1),Iv .u64 [0,0,0,0,0],211),(w.heap.size,Iv .u64 a,211)] Z):=F2.out.later hb (nQ _)
   clear hb F2 G2
   obtain⟨s,es⟩:∃x,cW p p=x:=⟨_,rfl⟩
   have HS:Hid (fY s):=by show fY s;rw[←es];exact(vA p p HP.out HP.out).1
   have hsl:Hid (s.length=5):=HS.out.length
   rw[es]
   have ES:Hid _:=es
   clear es
   have G3:Hid _:=(F3.out.row _ mQ).2.2
   go_wp2_with(refine wpPr rfl 211 _ _ rfl (w.heap.size+1+1) (Iv .u64 s) rfl rfl _ _ G3.out (hi.out s hsl.out) (by rw[aC,aC,hpl.out,hsl.out]) (aH _ _) (fun Z1 hP=>sH ?_))
   refine aG ?_
   have F4:Hid (Rw w [((w.heap.size+1+1),Iv .u64 s,211),((w.heap.size+1),Iv .u64 [0,0,0,0,0],211),(w.heap.size,Iv .u64 a,211)] Z1):=Rw.put F3.out hP (fun r hr=>by simp only[List.mem_cons,nY,or_false]at hr;rcases hr with rfl|rfl<;>(simp only;omega))
   clear hP F3 G3
   by_cases hc:j=2∨j=4
   ·have e1:Hid (lO a (m+1)=s):=by show _=_;rw[RJ (by omega),EP.out,ES.out]
    rcases hc with rfl|rfl
    all_goals go_wp2
    all_goals go_roundw
    case rel=>exact⟨1,m+1,by omega,by omega,by go_num,by rw[e1.out];exact F4.out⟩
    case measure=>simp[intOf]
    case rel=>exact⟨3,m+1,by omega,by omega,by go_num,by rw[e1.out];exact F4.out⟩
    case measure=>simp[intOf]
   ·have e1:Hid (lO a (m+1)=cW s a):=by show _=_;rw[RI (by omega),EP.out,ES.out]
    have hj3:(j=2)=False:=by simp;omega
    have hj4:(j=4)=False:=by simp;omega
    have hj5:(j !=2)=true:=by simp;omega
    have hj6:(j !=4)=true:=by simp;omega
    have hsh:=XA j hj hj2 (by omega) (by omega)
    have G4:Hid _:=(F4.out.row _ mQ).2.2
    have G5:Hid _:=(F4.out.row _ (mC _ (mC _ mQ))).2.2
    go_wp2_with(with_reducible refine aI ?_;first
     | refine wpLr rfl 211 _ rfl (w.heap.size+1+1) rfl _ (Iv .u64 s) _ _ G4.out underlying211 rfl (hi.out s hsl.out) ?_
     | refine wpLr rfl 211 _ rfl w.heap.size rfl _ (Iv .u64 a) _ _ G5.out underlying211 rfl (hi.out a hal.out) ?_)
    refine(fX s a HS.out HA.out _).mono ?_
    rintro e Z2 ⟨rfl,hb⟩
    have F5:Hid (Rw w [((w.heap.size+1+1),Iv .u64 s,211),((w.heap.size+1),Iv .u64 [0,0,0,0,0],211),(w.heap.size,Iv .u64 a,211)] Z2):=F4.out.later hb (nQ _)
    clear hb F4 G4 G5
    obtain⟨t,et⟩:∃x,cW s a=x:=⟨_,rfl⟩
    have htl:Hid (t.length=5):=by show _=_;rw[←et];exact(vA s a HS.out HA.out).1.length
    rw[et]at e1⊢
    clear et
    have G6:Hid _:=(F5.out.row _ mQ).2.2
    go_wp2_with(refine wpPr rfl 211 _ _ rfl (w.heap.size+1+1) (Iv .u64 t) rfl rfl _ _ G6.out (hi.out t htl.out) (by rw[aC,aC,hsl.out,htl.out]) (aH _ _) (fun Z3 hP=>sH ?_))
    refine aG ?_
    have F6:Hid (Rw w [((w.heap.size+1+1),Iv .u64 t,211),((w.heap.size+1),Iv .u64 [0,0,0,0,0],211),(w.heap.size,Iv .u64 a,211)] Z3):=Rw.put F5.out hP (fun r hr=>by simp only[List.mem_cons,nY,or_false]at hr;rcases hr with rfl|rfl<;>(simp only;omega))
    clear hP F5 G6
    go_wp2
    go_roundw
    case rel=>exact⟨j - 1,m+1,by omega,by omega,by go_num,by rw[e1.out];exact F6.out⟩
    case measure=>simp[intOf];omega
  ·obtain rfl:m=255:=by omega
   have G7:Hid _:=(F2.out.row _ mQ).2.2
   have G8:Hid _:=(F2.out.row _ (mC _ mQ)).2.2
   have B2:Hid _:=F2.out.bel
   have hrl:Hid _:=hlen.out 255
   clear F2 HF hlen
   obtain⟨r,er⟩:∃x,lO a 255=x:=⟨_,rfl⟩
   rw[er]at G7 hrl
   have ER:Hid _:=er
   clear er
   go_wp2_with(first
    | refine wpLr rfl 211 _ rfl (w.heap.size+1+1) rfl _ (Iv .u64 r) _ _ G7.out underlying211 rfl (hi.out r hrl.out) ?_
    | refine wpPr rfl 211 _ _ rfl (w.heap.size+1) (Iv .u64 r) rfl rfl _ _ G8.out (hi.out r hrl.out) (IN hrl.out) (aH _ _) (fun W9 hP=>sH ?_))
   refine aG ?_
   have B9:=hP.below _ _ B2.out (by omega)
   have G9:=hP.here
   go_wp2
   exact bodyPost_ret (v:=.agg (Iv .u64 r)) (results_cell_row rfl _ _ _ _ (Iv .u64 r) _ _ rfl G9 underlying211 rfl (hi.out r hrl.out)) rfl ⟨by rw[ER.out],B9⟩
def lsA (q:fZ):List Int:=rF q.x1 q.z1
def lsB (q:fZ):List Int:=mW q.x1 q.z1
def lsC (q:fZ):List Int:=rF q.x2 q.z2
def lsD (q:fZ):List Int:=mW q.x2 q.z2
def XY (q:fZ):List Int:=cW (lsA q) (lsA q)
def aaO (q:fZ):List Int:=cW (lsB q) (lsB q)
def lsE (q:fZ):List Int:=mW (XY q) (aaO q)
def aaQ (q:fZ):List Int:=cW (lsD q) (lsA q)
def aaP (q:fZ):List Int:=cW (lsC q) (lsB q)
def lsS (q:fZ):List Int:=rF (aaQ q) (aaP q)
def lsF (q:fZ):List Int:=mW (aaQ q) (aaP q)
def mL (u:List Int) (q:fZ):fZ:=⟨cW (XY q) (aaO q),cW (lsE q) (rF (XY q) (cW (lsE q) [121665,0,0,0,0])),cW (lsS q) (lsS q),cW u (cW (lsF q) (lsF q))⟩
def DY (q:fZ):fZ:=⟨q.x2,q.z2,q.x1,q.z1⟩
def mT (k u:List Int):Nat→fZ
 | 0=>⟨[1,0,0,0,0],[0,0,0,0,0],u,[1,0,0,0,0]⟩
 | m+1=>if k.getD ((254 - m) / 8) 0 / 2^((254 - m)%8)%2=1 then DY (mL u (DY (mT k u m)))else mL u (mT k u m)
structure OY (q:fZ) (n:MS):Prop where
 x1:bT q.x1 n.x1
 z1:bT q.z1 n.z1
 x2:bT q.x2 n.x2
 z2:bT q.z2 n.z2
theorem OY.step {u:List Int} {q:fZ} {n:MS} {y:Int} (hu:bT u y) (h:OY q n):OY (mL u q) ⟨dblX n.x1 n.z1,dblZ n.x1 n.z1,sumX n.x1 n.z1 n.x2 n.z2,sumZ n.x1 n.z1 n.x2 n.z2 y⟩:=by
 obtain⟨h1,h2,h3,h4⟩:=h
 have ha:bT (lsA q) _:=h1.plus h2
 have hb:bT (lsB q) _:=h1.minus h2
 have hc:bT (lsC q) _:=h3.plus h4
 have hd:bT (lsD q) _:=h3.minus h4
 have haa:bT (XY q) _:=ha.times ha
 have hbb:bT (aaO q) _:=hb.times hb
 have he:bT (lsE q) _:=haa.minus hbb
 have hda:bT (aaQ q) _:=hd.times ha
 have hcb:bT (aaP q) _:=hc.times hb
 have hs:bT (lsS q) _:=hda.plus hcb
 have hf:bT (lsF q) _:=hda.minus hcb
 refine⟨haa.times hbb,?_,hs.times hs,hu.times (hf.times hf)⟩
 have h9:=he.times (haa.plus (he.times (iX 121665 (by decide))))
 have e9:dblZ n.x1 n.z1=((n.x1+n.z1)*(n.x1+n.z1) - (n.x1 - n.z1)*(n.x1 - n.z1))*((n.x1+n.z1)*(n.x1+n.z1)+((n.x1+n.z1)*(n.x1+n.z1) - (n.x1 - n.z1)*(n.x1 - n.z1))*121665):=by
  unfold dblZ dblE
  rw[Int.mul_comm 121665]
 show bT _ (dblZ n.x1 n.z1)
 rw[e9]
 exact h9
theorem OY.swap {q:fZ} {n:MS} (h:OY q n):OY (DY q) ⟨n.x2,n.z2,n.x1,n.z1⟩:=⟨h.x2,h.z2,h.x1,h.z1⟩
theorem PO (k u:List Int) (y:Int) (hu:bT u y) (bit:Nat→Bool) (hbit:∀n,n≤254→(bit n=true↔k.getD (n / 8) 0 / 2^(n%8)%2=1)):∀m,m≤255→OY (mT k u m) (mJ bit y m)
 | 0,_=>⟨iX 1 (by decide),iX 0 (by decide),hu,iX 1 (by decide)⟩
 | m+1,hm=>by
   have ih:=PO k u y hu bit hbit m (by omega)
   have hb:=hbit (254 - m) (by omega)
   unfold mT mJ
   by_cases h:k.getD ((254 - m) / 8) 0 / 2^((254 - m)%8)%2=1
   ·rw[if_pos h,if_pos (hb.2 h)]
    have h1:=(ih.swap.step hu).swap
    rw[SY (mJ bit y m).x1,SZ (mJ bit y m).x1]
    exact h1
   ·rw[if_neg h,if_neg (fun hx=>h (hb.1 hx))]
    exact ih.step hu
theorem OY.el {q:fZ} {n:MS} (h:OY q n):fY q.x1∧fY q.z1∧fY q.x2∧fY q.z2:=⟨h.x1.1,h.z1.1,h.x2.1,h.z2.1⟩
theorem bT.self {l:List Int} (h:fY l):bT l (vL l):=⟨h,0,by omega⟩
structure J7 (q:fZ):Prop where
 x1:fY q.x1
 z1:fY q.z1
 x2:fY q.x2
 z2:fY q.z2
theorem yG {a b:List Int} (ha:fY a) (hb:fY b):fY (rF a b):=(LY a b ha hb).1
theorem uX {a b:List Int} (ha:fY a) (hb:fY b):fY (mW a b):=(GV a b ha hb).1
theorem jD {a b:List Int} (ha:fY a) (hb:fY b):fY (cW a b):=(vA a b ha hb).1
theorem J7.stands {q:fZ} (h:J7 q):OY q ⟨vL q.x1,vL q.z1,vL q.x2,vL q.z2⟩:=⟨.self h.x1,.self h.z1,.self h.x2,.self h.z2⟩
theorem OY.qel {q:fZ} {n:MS} (h:OY q n):J7 q:=⟨h.x1.1,h.z1.1,h.x2.1,h.z2.1⟩
theorem J7.step {u:List Int} {q:fZ} (hu:fY u) (h:J7 q):J7 (mL u q):=(h.stands.step (.self hu)).qel
theorem J7.swap {q:fZ} (h:J7 q):J7 (DY q):=⟨h.x2,h.z2,h.x1,h.z1⟩
theorem XV (k u:List Int) (hu:fY u) (m:Nat):J7 (mT k u m):=by
 induction m with
 | zero=>exact⟨(iX 1 (by decide)).1,(iX 0 (by decide)).1,hu,(iX 1 (by decide)).1⟩
 | succ m ih=>
   unfold mT
   split
   ·exact(ih.swap.step hu).swap
   ·exact ih.step hu
set_option maxRecDepth 10000 in
set_option maxHeartbeats 4000000 in
theorem SQ (l u x1 z1 x2 z2:List Int) (hl:l.length=32) (hb:aE l) (hu:Dg u) (h1:Dg x1) (h2:Dg z1) (h3:Dg x2) (h4:Dg z2) (n:Nat) (hn:n≤254)
 (ih:∀W,Calls prog 54 #[.agg (Iv .u8 l),.int .i64 ((n:Int)+1),.agg (Iv .i64 u)] W fun e w'=>e=.returned (.tuple #[.agg (Iv .i64 (x1++z1)),.agg (Iv .i64 (x2++z2))])∧Below W.heap.size W w') (w:World):
 Calls prog 54 #[.agg (Iv .u8 l),.int .i64 n,.agg (Iv .i64 u)] w fun e w'=>e=.returned (.tuple #[.agg (Iv .i64 (if mG l n=1 then rH x1 z1 x2 z2++rI x1 z1 x2 z2 u else oB x1 z1++oD x1 z1)),.agg (Iv .i64 (if mG l n=1 then oB x2 z2++oD x2 z2 else rH x1 z1 x2 z2++rI x1 z1 x2 z2 u))])∧Below w.heap.size w w':=by
 have hzp:=D9
 have lu:Hid (u.length=16):=hu.1
 have ll:Hid (l.length=32):=hl
 have l1:Hid ((x1++z1).length=32):=by show _=_;rw[lQ,h1.1,h2.1]
 have l2:Hid ((x2++z2).length=32):=by show _=_;rw[lQ,h3.1,h4.1]
 have CS:Hid (∀W,_):=fun W=>YS x1 z1 x2 z2 u h1 h2 h3 h4 hu W
 have CD1:Hid (∀W,_):=fun W=>PD x1 z1 h1 h2 W
 have CD2:Hid (∀W,_):=fun W=>PD x2 z2 h3 h4 W
 have CB:Hid (∀W,_):=fun W=>WQ l n hl hb (by omega) W
 have IH:Hid (∀W,_):=ih
 have lS:Hid ((rH x1 z1 x2 z2++rI x1 z1 x2 z2 u).length=32):=by
  show _=_
  have a1:=pZ h1 h2
  have a2:=m8 h1 h2
  have a3:=pZ h3 h4
  have a4:=m8 h3 h4
  have a5:=gH a4 a1
  have a6:=gH a3 a2
  have a7:=pZ a5 a6
  have a8:=m8 a5 a6
  rw[lQ,show(rH x1 z1 x2 z2).length=16 from(gH a7 a7).1,show(rI x1 z1 x2 z2 u).length=16 from(gH hu (gH a8 a8)).1]
 have lD:∀x z,Dg x→Dg z→(oB x z++oD x z).length=32:=fun x z hx hz=>by
  have a1:=pZ hx hz
  have a2:=m8 hx hz
  have a3:=gH a1 a1
  have a4:=gH a2 a2
  have a5:=m8 a3 a4
  rw[lQ,show(oB x z).length=16 from(gH a3 a4).1,show(oD x z).length=16 from(gH a5 (PF a3 a5)).1]
 have lD1:Hid ((oB x1 z1++oD x1 z1).length=32):=lD _ _ h1 h2
 have lD2:Hid ((oB x2 z2++oD x2 z2).length=32):=lD _ _ h3 h4
 clear lD h1 h2 h3 h4 hu hl hb ih
 have hn1:((n:Int)==255)=false:=by simp;omega
 have hn2:(n:Int)≤254:=by omega
 generalize x1++z1=p1 at*
 generalize x2++z2=p2 at*
 generalize rH x1 z1 x2 z2++rI x1 z1 x2 z2 u=s at*
 generalize oB x1 z1++oD x1 z1=d1 at*
 generalize oB x2 z2++oD x2 z2=d2 at*
 obtain⟨W,hW,g0,g1,g2,g3,hsz,hBe⟩:=qJ w (.cells (Iv .u8 l) 22) (.cells (Iv .i64 u) 108) (.cells (Iv .i64 (aA 32)) 110) (.cells (Iv .i64 (aA 32)) 110)
 have F0:Hid (Rw w [(w.heap.size+1+1+1,Iv .i64 (aA 32),110),(w.heap.size+1+1,Iv .i64 (aA 32),110),(w.heap.size+1,Iv .i64 u,108),(w.heap.size,Iv .u8 l,22)] W):=
  ⟨hBe,fun r hr=>by
   simp only[List.mem_cons,nY,or_false]at hr
   rcases hr with rfl|rfl|rfl|rfl
   ·exact⟨by simp only;omega,by simp only;omega,g3⟩
   ·exact⟨by simp only;omega,by simp only;omega,g2⟩
   ·exact⟨by simp only;omega,by simp only;omega,g1⟩
   ·exact⟨by simp only;omega,by simp only;omega,g0⟩⟩
 have HW:Hid _:=hW
 have G0:Hid (((((w.alloc (.cells (Iv .u8 l) 22)).alloc (.cells (Iv .i64 u) 108)).alloc (.cells (Iv .i64 (aA 32)) 110)).alloc (.cells (Iv .i64 (aA 32)) 110)).heap[w.heap.size]? =some (.cells (Iv .u8 l) 22)):=by show _=_;rw[hW];exact g0
 have G1:Hid (((((w.alloc (.cells (Iv .u8 l) 22)).alloc (.cells (Iv .i64 u) 108)).alloc (.cells (Iv .i64 (aA 32)) 110)).alloc (.cells (Iv .i64 (aA 32)) 110)).heap[w.heap.size+1]? =some (.cells (Iv .i64 u) 108)):=by show _=_;rw[hW];exact g1
 clear hW g0 g1 g2 g3 hsz hBe
 go_enter func54,ntmps54
 go_wp2_with(with_reducible refine aI ?_;first
  | refine wpLr rfl 22 _ rfl w.heap.size rfl _ (Iv .u8 l) _ _ G0.out underlying22 rfl (dA ll.out) ?_
  | refine wpLr rfl 108 _ rfl (w.heap.size+1) rfl _ (Iv .i64 u) _ _ G1.out underlying108 rfl (aU lu.out) ?_)
 refine(IH.out _).mono ?_
 rintro e Z ⟨rfl,hb⟩
 rw[HW.out]at hb
 have F1:Hid (Rw w [(w.heap.size+1+1+1,Iv .i64 (aA 32),110),(w.heap.size+1+1,Iv .i64 (aA 32),110),(w.heap.size+1,Iv .i64 u,108),(w.heap.size,Iv .u8 l,22)] Z):=F0.out.later hb (nQ _)
 clear hb F0 HW G0 G1 IH
 have KA:Hid (((Z.alloc (.cells (Iv .i64 (aA 32)) 110)).alloc (.cells (Iv .i64 (aA 32)) 110)).heap[Z.heap.size]? =some (.cells (Iv .i64 (aA 32)) 110)):=by
  obtain⟨Y,hY,k0,k1,_,_⟩:=kG Z (.cells (Iv .i64 (aA 32)) 110) (.cells (Iv .i64 (aA 32)) 110)
  show _=_
  rw[hY]
  exact k0
 have F2a:Hid (Rw w [(Z.heap.size+1,Iv .i64 (aA 32),110),(Z.heap.size,Iv .i64 (aA 32),110),(w.heap.size+1+1+1,Iv .i64 (aA 32),110),(w.heap.size+1+1,Iv .i64 (aA 32),110),(w.heap.size+1,Iv .i64 u,108),(w.heap.size,Iv .u8 l,22)] ((Z.alloc (.cells (Iv .i64 (aA 32)) 110)).alloc (.cells (Iv .i64 (aA 32)) 110))):=by
  have h1:=(F1.out.alloc (Iv .i64 (aA 32)) 110).alloc (Iv .i64 (aA 32)) 110
  rw[show(Z.alloc (.cells (Iv .i64 (aA 32)) 110)).heap.size=Z.heap.size+1 by simp]at h1
  exact h1
 have hZs:=F1.out.size
 have hZ3:w.heap.size+1+1+1<Z.heap.size:=(F1.out.row _ mQ).2.1
 clear F1
 go_wp2_with(refine wpPr rfl 110 _ _ rfl Z.heap.size (Iv .i64 p1) rfl rfl _ _ KA.out (dF l1.out) (kE l1.out) (aH _ _) (fun w3 hP=>sH ?_))
 refine aG ?_
 have F3:Hid (Rw w [(Z.heap.size,Iv .i64 p1,110),(Z.heap.size+1,Iv .i64 (aA 32),110),(w.heap.size+1+1+1,Iv .i64 (aA 32),110),(w.heap.size+1+1,Iv .i64 (aA 32),110),(w.heap.size+1,Iv .i64 u,108),(w.heap.size,Iv .u8 l,22)] w3):=
  Rw.put (F2a.out.sub (R':=[(Z.heap.size,Iv .i64 (aA 32),110),(Z.heap.size+1,Iv .i64 (aA 32),110),(w.heap.size+1+1+1,Iv .i64 (aA 32),110),(w.heap.size+1+1,Iv .i64 (aA 32),110),(w.heap.size+1,Iv .i64 u,108),(w.heap.size,Iv .u8 l,22)]) (fun r hr=>by simp only[List.mem_cons,nY,or_false]at hr⊢;rcases hr with rfl|rfl|rfl|rfl|rfl|rfl<;>simp)) hP (fun r hr=>by simp only[List.mem_cons,nY,or_false]at hr;rcases hr with rfl|rfl|rfl|rfl|rfl<;>(simp only;omega))
 clear hP KA F2a
 have KB:Hid (w3.heap[Z.heap.size+1]? =some (.cells (Iv .i64 (aA 32)) 110)):=(F3.out.row _ (mC _ mQ)).2.2
 go_wp2_with(refine wpPr rfl 110 _ _ rfl (Z.heap.size+1) (Iv .i64 p2) rfl rfl _ _ KB.out (dF l2.out) (kE l2.out) (aH _ _) (fun w4 hP=>sH ?_))
 refine aG ?_
 have F4:Hid (Rw w [(Z.heap.size+1,Iv .i64 p2,110),(Z.heap.size,Iv .i64 p1,110),(w.heap.size+1+1+1,Iv .i64 (aA 32),110),(w.heap.size+1+1,Iv .i64 (aA 32),110),(w.heap.size+1,Iv .i64 u,108),(w.heap.size,Iv .u8 l,22)] w4):=
  Rw.put (F3.out.sub (R':=[(Z.heap.size+1,Iv .i64 (aA 32),110),(Z.heap.size,Iv .i64 p1,110),(w.heap.size+1+1+1,Iv .i64 (aA 32),110),(w.heap.size+1+1,Iv .i64 (aA 32),110),(w.heap.size+1,Iv .i64 u,108),(w.heap.size,Iv .u8 l,22)]) (fun r hr=>by simp only[List.mem_cons,nY,or_false]at hr⊢;rcases hr with rfl|rfl|rfl|rfl|rfl|rfl<;>simp)) hP (fun r hr=>by simp only[List.mem_cons,nY,or_false]at hr;rcases hr with rfl|rfl|rfl|rfl|rfl<;>(simp only;omega))
 clear hP KB F3
 obtain⟨c,ec⟩:∃c,c=Z.heap.size:=⟨_,rfl⟩
 rw[←ec]at F4 hZs hZ3⊢
 clear ec
 have Q1:Hid _:=(F4.out.row _ (mC _ mQ)).2.2
 have Q2:Hid _:=(F4.out.row _ mQ).2.2
 have Q3:Hid _:=(F4.out.row _ (mC _ (mC _ (mC _ (mC _ mQ))))).2.2
 go_wp2_with(with_reducible refine aI ?_;first
  | refine wpLr rfl 110 _ rfl c rfl _ (Iv .i64 p1) _ _ Q1.out underlying110 rfl (dF l1.out) ?_
  | refine wpLr rfl 110 _ rfl (c+1) rfl _ (Iv .i64 p2) _ _ Q2.out underlying110 rfl (dF l2.out) ?_
  | refine wpLr rfl 108 _ rfl (w.heap.size+1) rfl _ (Iv .i64 u) _ _ Q3.out underlying108 rfl (aU lu.out) ?_)
 refine(CS.out _).mono ?_
 rintro e w5 ⟨rfl,hb⟩
 have F5:Hid (Rw w [(c+1,Iv .i64 p2,110),(c,Iv .i64 p1,110),(w.heap.size+1+1+1,Iv .i64 (aA 32),110),(w.heap.size+1+1,Iv .i64 (aA 32),110),(w.heap.size+1,Iv .i64 u,108),(w.heap.size,Iv .u8 l,22)] w5):=F4.out.later hb (nQ _)
 clear hb F4 Q1 Q2 Q3 CS
 have KC:Hid ((w5.alloc (.cells (Iv .i64 (aA 32)) 110)).heap[w5.heap.size]? =some (.cells (Iv .i64 (aA 32)) 110)):=hAN _ _
 go_wp2_with(refine wpPr rfl 110 _ _ rfl w5.heap.size (Iv .i64 s) rfl rfl _ _ KC.out (dF lS.out) (kE lS.out) (aH _ _) (fun w6 hP=>sH ?_))
 refine aG ?_
 have F6a:=F5.out.newRow hP
 have hd6:c+1<w5.heap.size:=(F5.out.row _ mQ).2.1
 obtain⟨d,ed⟩:∃d,d=w5.heap.size:=⟨_,rfl⟩
 rw[←ed]at F6a hd6⊢
 have F6:Hid (Rw w [(d,Iv .i64 s,110),(c+1,Iv .i64 p2,110),(c,Iv .i64 p1,110),(w.heap.size+1+1+1,Iv .i64 (aA 32),110),(w.heap.size+1+1,Iv .i64 (aA 32),110),(w.heap.size+1,Iv .i64 u,108),(w.heap.size,Iv .u8 l,22)] w6):=F6a
 clear F6a F5 hP KC ed
 have Q4:Hid _:=(F6.out.row _ (mC _ (mC _ (mC _ (mC _ (mC _ (mC _ mQ))))))).2.2
 go_wp2_with(with_reducible refine aI ?_;first
  | refine wpLr rfl 22 _ rfl w.heap.size rfl _ (Iv .u8 l) _ _ Q4.out underlying22 rfl (dA ll.out) ?_)
 refine(CB.out _).mono ?_
 rintro e w7 ⟨rfl,hb⟩
 have F7:Hid (Rw w [(d,Iv .i64 s,110),(c+1,Iv .i64 p2,110),(c,Iv .i64 p1,110),(w.heap.size+1+1+1,Iv .i64 (aA 32),110),(w.heap.size+1+1,Iv .i64 (aA 32),110),(w.heap.size+1,Iv .i64 u,108),(w.heap.size,Iv .u8 l,22)] w7):=F6.out.later hb (nQ _)
 clear hb F6 Q4 CB
 obtain⟨B,eB⟩:∃B,mG l n=B:=⟨_,rfl⟩
 have HBit:Hid _:=eB
 rw[eB]
 clear eB
 by_cases hB:B=1
 ·subst hB
  go_wp2_with fail
  refine wRt 4 (fun w'=>∃x:Wp (fun v=>Rw w [(d,Iv .i64 s,110),(c+1,Iv .i64 p2,110),(c,Iv .i64 p1,110)] v),w'=x.w) (.held [0,1] (.tail 2 (.tail 3 (.last 4 .done)))) kJ (by kernel_rfl) ⟨⟨_,F7.out.drew.sub (fun r hr=>by simp only[List.mem_cons,nY,or_false]at hr⊢;rcases hr with rfl|rfl|rfl<;>simp)⟩,rfl⟩ ?_
  simp only[gM,oS]
  refine wqLr rfl 110 _ rfl d rfl _ (Iv .i64 s) _ _ (fun w' hw'=>by obtain⟨x,rfl⟩:=hw';exact(x.p.row _ mQ).2.2) underlying110 rfl (dF lS.out) ?_
  simp only[pS]
  refine wqLr rfl 110 _ rfl (c+1) rfl _ (Iv .i64 p2) _ _ (fun w' hw'=>by obtain⟨x,rfl⟩:=hw';exact(x.p.row _ (mC _ mQ)).2.2) underlying110 rfl (dF l2.out) ?_
  simp only[pS]
  refine wqN ?_
  go_wp2_with fail
  refine(CD2.out _).mono ?_
  rintro e w8 ⟨rfl,hb⟩
  have F8:Hid (Rw w [(d,Iv .i64 s,110),(c+1,Iv .i64 p2,110),(c,Iv .i64 p1,110),(w.heap.size+1+1+1,Iv .i64 (aA 32),110),(w.heap.size+1+1,Iv .i64 (aA 32),110),(w.heap.size+1,Iv .i64 u,108),(w.heap.size,Iv .u8 l,22)] w8):=F7.out.drew.later hb (nQ _)
  clear hb F7
  go_wp2_with fail
  refine⟨⟨⟨_,F8.out.sub (fun r hr=>by simp only[List.mem_cons,nY,or_false]at hr⊢;rcases hr with rfl|rfl|rfl<;>simp)⟩,rfl⟩,?_⟩
  have K2:Hid (w8.heap[w.heap.size+1+1]? =some (.cells (Iv .i64 (aA 32)) 110)):=(F8.out.row _ (mC _ (mC _ (mC _ (mC _ mQ))))).2.2
  go_wp2_with(refine wpPr rfl 110 _ _ rfl (w.heap.size+1+1) (Iv .i64 s) rfl rfl _ _ K2.out (dF lS.out) (kE lS.out) (aH _ _) (fun w9 hP=>sH ?_))
  refine aG ?_
  have F9:Hid (Rw w [(w.heap.size+1+1+1,Iv .i64 (aA 32),110),(d,Iv .i64 s,110),(c+1,Iv .i64 p2,110),(c,Iv .i64 p1,110)] w9):=
   (F8.out.sub (R':=[(w.heap.size+1+1+1,Iv .i64 (aA 32),110),(d,Iv .i64 s,110),(c+1,Iv .i64 p2,110),(c,Iv .i64 p1,110)]) (fun r hr=>by simp only[List.mem_cons,nY,or_false]at hr⊢;rcases hr with rfl|rfl|rfl|rfl<;>simp)).past hP (by omega) (fun r hr=>by simp only[List.mem_cons,nY,or_false]at hr;rcases hr with rfl|rfl|rfl|rfl<;>(simp only;omega))
  have K9:Hid _:=hP.here
  clear hP F8 K2
  go_wp2_with fail
  refine⟨⟨⟨_,F9.out.sub (fun r hr=>by simp only[List.mem_cons,nY,or_false]at hr⊢;rcases hr with rfl|rfl|rfl<;>simp)⟩,rfl⟩,?_⟩
  have K3:Hid (w9.heap[w.heap.size+1+1+1]? =some (.cells (Iv .i64 (aA 32)) 110)):=(F9.out.row _ mQ).2.2
  go_wp2_with(refine wpPr rfl 110 _ _ rfl (w.heap.size+1+1+1) (Iv .i64 d2) rfl rfl _ _ K3.out (dF lD2.out) (kE lD2.out) (aH _ _) (fun wX hP=>sH ?_))
  refine aG ?_
  refine mV ?_
  have M4:=(hP.far (w.heap.size+1+1) (by omega)).trans K9.out
  have M5:=hP.here
  have B9:=hP.below _ _ F9.out.bel (by omega)
  clear hP F9 K9 K3
  go_wp2
  exact bodyPost_ret (v:=.tuple #[.agg (Iv .i64 s),.agg (Iv .i64 d2)]) (iN rfl _ _ _ _ _ _ (Iv .i64 s) (Iv .i64 d2) _ _ rfl rfl M4 M5 underlying110 rfl (dF lS.out) underlying110 rfl (dF lD2.out)) rfl ⟨by first|rfl|(rw[if_pos HBit.out];first|rfl|rw[if_pos HBit.out]),B9⟩
 ·have hB2:(B==1)=false:=by simpa using hB
  have HNB:Hid (¬mG l n=1):=by show¬_;rw[HBit.out];exact hB
  go_wp2_with fail
  refine wRt 4 (fun w'=>∃x:Wp (fun v=>Rw w [(d,Iv .i64 s,110),(c+1,Iv .i64 p2,110),(c,Iv .i64 p1,110)] v),w'=x.w) (.held [0,2] (.tail 1 (.tail 3 (.last 4 .done)))) kJ (by kernel_rfl) ⟨⟨_,F7.out.drew.sub (fun r hr=>by simp only[List.mem_cons,nY,or_false]at hr⊢;rcases hr with rfl|rfl|rfl<;>simp)⟩,rfl⟩ ?_
  simp only[gM,oS]
  refine wqLr rfl 110 _ rfl c rfl _ (Iv .i64 p1) _ _ (fun w' hw'=>by obtain⟨x,rfl⟩:=hw';exact(x.p.row _ (mC _ (mC _ mQ))).2.2) underlying110 rfl (dF l1.out) ?_
  simp only[pS]
  refine wqLr rfl 110 _ rfl d rfl _ (Iv .i64 s) _ _ (fun w' hw'=>by obtain⟨x,rfl⟩:=hw';exact(x.p.row _ mQ).2.2) underlying110 rfl (dF lS.out) ?_
  simp only[pS]
  refine wqN ?_
  go_wp2_with fail
  refine(CD1.out _).mono ?_
  rintro e w8 ⟨rfl,hb⟩
  have F8:Hid (Rw w [(d,Iv .i64 s,110),(c+1,Iv .i64 p2,110),(c,Iv .i64 p1,110),(w.heap.size+1+1+1,Iv .i64 (aA 32),110),(w.heap.size+1+1,Iv .i64 (aA 32),110),(w.heap.size+1,Iv .i64 u,108),(w.heap.size,Iv .u8 l,22)] w8):=F7.out.drew.later hb (nQ _)
  clear hb F7
  go_wp2_with fail
  refine⟨⟨⟨_,F8.out.sub (fun r hr=>by simp only[List.mem_cons,nY,or_false]at hr⊢;rcases hr with rfl|rfl|rfl<;>simp)⟩,rfl⟩,?_⟩
  have K2:Hid (w8.heap[w.heap.size+1+1]? =some (.cells (Iv .i64 (aA 32)) 110)):=(F8.out.row _ (mC _ (mC _ (mC _ (mC _ mQ))))).2.2
  go_wp2_with(refine wpPr rfl 110 _ _ rfl (w.heap.size+1+1) (Iv .i64 d1) rfl rfl _ _ K2.out (dF lD1.out) (kE lD1.out) (aH _ _) (fun w9 hP=>sH ?_))
  refine aG ?_
  have F9:Hid (Rw w [(w.heap.size+1+1+1,Iv .i64 (aA 32),110),(d,Iv .i64 s,110),(c+1,Iv .i64 p2,110),(c,Iv .i64 p1,110)] w9):=
   (F8.out.sub (R':=[(w.heap.size+1+1+1,Iv .i64 (aA 32),110),(d,Iv .i64 s,110),(c+1,Iv .i64 p2,110),(c,Iv .i64 p1,110)]) (fun r hr=>by simp only[List.mem_cons,nY,or_false]at hr⊢;rcases hr with rfl|rfl|rfl|rfl<;>simp)).past hP (by omega) (fun r hr=>by simp only[List.mem_cons,nY,or_false]at hr;rcases hr with rfl|rfl|rfl|rfl<;>(simp only;omega))
  have K9:Hid _:=hP.here
  clear hP F8 K2
  go_wp2_with fail
  refine⟨⟨⟨_,F9.out.sub (fun r hr=>by simp only[List.mem_cons,nY,or_false]at hr⊢;rcases hr with rfl|rfl|rfl<;>simp)⟩,rfl⟩,?_⟩
  have K3:Hid (w9.heap[w.heap.size+1+1+1]? =some (.cells (Iv .i64 (aA 32)) 110)):=(F9.out.row _ mQ).2.2
  go_wp2_with(refine wpPr rfl 110 _ _ rfl (w.heap.size+1+1+1) (Iv .i64 s) rfl rfl _ _ K3.out (dF lS.out) (kE lS.out) (aH _ _) (fun wX hP=>sH ?_))
  refine aG ?_
  refine mV ?_
  have M4:=(hP.far (w.heap.size+1+1) (by omega)).trans K9.out
  have M5:=hP.here
  have B9:=hP.below _ _ F9.out.bel (by omega)
  clear hP F9 K9 K3
  go_wp2
  exact bodyPost_ret (v:=.tuple #[.agg (Iv .i64 d1),.agg (Iv .i64 s)]) (iN rfl _ _ _ _ _ _ (Iv .i64 d1) (Iv .i64 s) _ _ rfl rfl M4 M5 underlying110 rfl (dF lD1.out) underlying110 rfl (dF lS.out)) rfl ⟨by first|rfl|(rw[if_neg HNB.out];first|rfl|rw[if_neg HNB.out]),B9⟩
theorem VA (l u:List Int) (hu:Dg u) (m:Nat):Dg (cP l u m).x1∧Dg (cP l u m).z1∧Dg (cP l u m).x2∧Dg (cP l u m).z2:=by
 obtain⟨h1,h2,h3,h4⟩:=DR l u (dN u) ⟨hu,0,by omega⟩ m
 exact⟨h1.1,h2.1,h3.1,h4.1⟩
theorem KV (l u:List Int) (m:Nat):wL (cP l u (m+1))=if mG l (254 - m)=1 then rH (cP l u m).x1 (cP l u m).z1 (cP l u m).x2 (cP l u m).z2++rI (cP l u m).x1 (cP l u m).z1 (cP l u m).x2 (cP l u m).z2 u else oB (cP l u m).x1 (cP l u m).z1++oD (cP l u m).x1 (cP l u m).z1:=by
 rw[cP]
 by_cases h:mG l (254 - m)=1
 ·simp only[h,if_true,wL]
 ·simp only[h,if_false,wL]
theorem JV (l u:List Int) (m:Nat):sL (cP l u (m+1))=if mG l (254 - m)=1 then oB (cP l u m).x2 (cP l u m).z2++oD (cP l u m).x2 (cP l u m).z2 else rH (cP l u m).x1 (cP l u m).z1 (cP l u m).x2 (cP l u m).z2++rI (cP l u m).x1 (cP l u m).z1 (cP l u m).x2 (cP l u m).z2 u:=by
 rw[cP]
 by_cases h:mG l (254 - m)=1
 ·simp only[h,if_true,sL]
 ·simp only[h,if_false,sL]
theorem LV (l u:List Int) (hl:l.length=32) (hb:aE l) (hu:Dg u):∀(m n:Nat),n+m=255→∀w:World,
 Calls prog 54 #[.agg (Iv .u8 l),.int .i64 n,.agg (Iv .i64 u)] w fun e w'=>e=.returned (.tuple #[.agg (Iv .i64 (wL (cP l u m))),.agg (Iv .i64 (sL (cP l u m)))])∧Below w.heap.size w w'
 | 0,n,hn,w=>by
   obtain rfl:n=255:=by omega
   exact SR l u hl hu w
 | m+1,n,hn,w=>by
   obtain⟨h1,h2,h3,h4⟩:=VA l u hu m
   have hm:254 - m=n:=by omega
   have h:=SQ l u (cP l u m).x1 (cP l u m).z1 (cP l u m).x2 (cP l u m).z2 hl hb hu h1 h2 h3 h4 n (by omega) (fun W=>LV l u hl hb hu m (n+1) (by omega) W) w
   rw[KV,JV,hm]
   exact h
abbrev rE (b:Nat) (l:List Int):Nat×Array Value×TypeId:=(b,Iv .u64 l,211)
abbrev rZ (b:Nat):Nat×Array Value×TypeId:=(b,Iv .u64 [0,0,0,0,0],211)
abbrev rR (b:Nat) (l:List Int):Nat×Array Value×TypeId:=(b,Iv .u64 l,213)
theorem aaH:(prog.info? 213).map (·.size)=some 10:=by kernel_rfl
theorem dB {l:List Int} (h:l.length=10):(prog.info? 213).map (·.size)=some (Iv .u64 l).size:=by rw[aC,h];exact aaH
theorem OX:∀W,(zeroValue 213).run prog W=.ok (.agg (Iv .u64 (aA 10))) W:=(zero_of_info (n:=10) (by kernel_rfl)).1
theorem zM {l:List Int} (h:l.length=10):(Iv .u64 (aA 10)).size=(Iv .u64 l).size:=by rw[aC,aC,h];rfl
theorem pU {l:List Int} (h:l.length=5):(Iv .u64 [0,0,0,0,0]).size=(Iv .u64 l).size:=by rw[aC,aC,h];rfl
theorem uR {P:Program} {ops:Array Oper} {rest:List Oper} {op:Oper} {a:Act} {w:World} {Q:Exit→Act→World→Prop} (hgd:op.guard=none) (ty:TypeId) (x y:Operand) (ho:op.op=.store ty x y)
 (g:Nat) (k:IntKind) (v p q:List Int) (hx:a.eval x=.pointer (some ⟨g,0,none⟩)) (hy:a.eval y=.agg (Iv k v)) (t:TypeId) (hg:w.heap[g]? =some (.cells (Iv k (p++q)) t))
 (hi:(P.info? ty).map (·.size)=some (v.map (Value.int k)).length) (hl:v.length=p.length) (h:∀W,vD w g (Iv k (v++q)) t W→wpList P ops Q rest (a.put op.dst undef) W):wpList P ops Q (op::rest) a w:=
 wpPp hgd ty x y ho g 0 (v.map (Value.int k)) hx hy ((p++q).map (Value.int k)) t hg ((v++q).map (Value.int k)) hi (by simp;omega) (List.all_eq_true.2 fun z hz=>by obtain⟨i,_,rfl⟩:=List.mem_map.1 hz;rfl)
  (by rw[tJ,nA,Nat.zero_add,lU,←List.map_drop,hl,List.drop_left,←List.map_append]) h
theorem uS {P:Program} {ops:Array Oper} {rest:List Oper} {op:Oper} {a:Act} {w:World} {Q:Exit→Act→World→Prop} (hgd:op.guard=none) (ty:TypeId) (x y:Operand) (ho:op.op=.store ty x y)
 (g n:Nat) (k:IntKind) (v p q:List Int) (hx:a.eval x=.pointer (some ⟨g,n,none⟩)) (hy:a.eval y=.agg (Iv k v)) (t:TypeId) (hg:w.heap[g]? =some (.cells (Iv k (p++q)) t))
 (hi:(P.info? ty).map (·.size)=some (v.map (Value.int k)).length) (hn:p.length=n) (hl:v.length=q.length) (h:∀W,vD w g (Iv k (p++v)) t W→wpList P ops Q rest (a.put op.dst undef) W):wpList P ops Q (op::rest) a w:=
 wpPp hgd ty x y ho g n (v.map (Value.int k)) hx hy ((p++q).map (Value.int k)) t hg ((p++v).map (Value.int k)) hi (by simp;omega) (List.all_eq_true.2 fun z hz=>by obtain⟨i,_,rfl⟩:=List.mem_map.1 hz;rfl)
  (by rw[lU,←List.map_take,←List.map_drop,←hn,List.take_left,hl,←lQ,List.drop_length,List.map_nil,List.append_nil,←List.map_append]) h
theorem jI {l:List Int} (h:l.length=5):(prog.info? 211).map (·.size)=some (l.map (Value.int .u64)).length:=by rw[lU,h];exact kI
end Go.Proofs.YtgcepckaolkeoaaGreatDoor
