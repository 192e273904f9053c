import Derived.Test.YtmjccemdldidaaaGreatDoorMH12
import Derived.Lib.LaidTab
import Derived.OpenShut
import Derived.Laws.CopyOwn
import Derived.Test.YtmjccemdldidaaaGreatDoorMH04
namespace Go.Proofs.YtmjccemdldidaaaGreatDoor
open Go.RowKit
open Go.Proofs.Tryz
open Go renaming heap_alloc_new → hAN, rounds_succ → rdS, wpList_load_row → wpLr, wpQuiet_nil → wqN
open Go.World renaming block_lt_of_cell? → wJ
open List renaming drop_succ_cons → dJ, length_append → lQ, length_map → lU, length_replicate → rJ, length_set → lJ, nil_append → nA, replicate → rQ, setIfInBounds_toArray → sU, take_succ_cons → tU
open Nat renaming le_refl → nQ, le_trans → nU, lt_of_lt_of_le → nJ
set_option linter.unusedVariables false
set_option maxHeartbeats 4000000
set_option maxRecDepth 100000
def iv (k:IntKind) (l:LI):List Value:=l.map (Value.int k)
theorem eT (k:IntKind) (l:LI):(iv k l).length=l.length:=by simp[iv]
theorem IT (k:IntKind) (l:LI) (i:Nat):(iv k l)[i]? =l[i]?.map (Value.int k):=by simp[iv]
theorem LY (k:IntKind) (l r:LI):iv k (l++r)=iv k l++iv k r:=by simp[iv]
theorem ahE (k:IntKind) (l:LI) (i:Nat) (y:Int):iv k (l.set i y)=(iv k l).set i (.int k y):=by simp[iv]
theorem OG (k:IntKind) (l:LI):∀u∈iv k l,u.oneCell'=true:=ints_oneCell k l
def bM (k:IntKind) (e:TypeId) (base:Nat) (w:World) (v:Value) (l:LI):Prop:=w.ownsRow base e 1 v l.length (iv k l)
theorem J8 {w w1 w2:World} {row:Option Nat} (h:w.grownBy w1 row) (g:w1.grownBy w2 row):w.grownBy w2 row:=
 ⟨g.os.trans h.os,g.tape.trans h.tape,g.output.trans h.output,nU h.size g.size,fun k hk hne=>(g.block k (nJ hk h.size) hne).trans (h.block k hk hne)⟩
theorem bM.at {k:IntKind} {e:TypeId} {base:Nat} {w:World} {v:Value} {l:LI} (h:bM k e base w v l):
 (v=.slice none 0 0∧l=[])∨∃g cap,v=.slice (some ⟨g,0,none⟩) l.length cap∧base≤g∧g<w.heap.size∧l.length≤cap∧cap≤9223372036854775807∧(∀i,i<l.length→w.cell? ⟨g,i,none⟩=some (.int k (l.getD i 0)))∧(∀i,w.frozen? ⟨g,i,none⟩=false):=by
 have h':=h
 obtain⟨hl,⟨hv,hn⟩|⟨g,cap,cur,hv,hg,hh,hc,hm,hs,ht⟩⟩:=h
 ·exact .inl ⟨hv,List.length_eq_zero_iff.1 hn⟩
 ·refine .inr ⟨g,cap,hv,hg,(Array.getElem?_eq_some_iff.1 hh).1,hc,by unfold maxLen at hm;omega,?_,?_⟩
  ·intro i hi
   subst hv
   have:=World.ownsRow.cellAt h' i (by omega)
   rw[this,IT]
   simp[hi]
  ·intro i
   exact frozen_of_row _ _ _ _ _ hh
theorem bM.nil {k:IntKind} {e:TypeId} {base:Nat} (w:World) (hb:base≤w.heap.size):bM k e base (w.alloc (.cells #[] e)) (.slice (some ⟨w.heap.size,0,none⟩) 0 0) []:=
 World.ownsRow_made w #[] 0 hb (by unfold maxLen;omega) rfl
theorem bM.kept {k:IntKind} {e:TypeId} {base:Nat} {w w':World} {v:Value} {l:LI} {row:Option Nat} (h:bM k e base w v l) (hg:w.grownBy w' row) (hne:v.ownBlock=none∨v.ownBlock≠row):bM k e base w' v l:=World.ownsRow.kept h hg hne
theorem bM.lt {k:IntKind} {e:TypeId} {base:Nat} {w:World} {v:Value} {l:LI} (h:bM k e base w v l):∀g,v.ownBlock=some g→base≤g∧g<w.heap.size:=World.ownsRow.lt h
theorem AC {P:Program} {w:World} {base:Nat} {t ty e:TypeId} {i:TypeInfo} {z:Value} {bytes:Nat} (ht:P.underlying t=some (.slice e)) (hi:P.info? e=some i) (hz:i.zero=some z)
 (hsize:i.size=1) (hby:i.bytes=bytes) (hzs:z.cells.size=1)
 {v:Value} {n:Nat} {xs:List Value} (hown:w.ownsRow base e 1 v n xs)
 {a:Addr} {m c:Nat} {news:List Value} (hl:news.length=m*1) (hnews:∀j u,news[j]? =some u→w.cell? (a.add j)=some u) (h1:∀u∈news,u.oneCell'=true)
 (h63:n+m≤maxLen) (hbytes:(n+m)*bytes≤140737488355328) {v':Value} {w':World} (hr:(Builtin.append_ #[t,t] ty #[v,.slice (some a) m c]).run P w=.ok v' w'):
 v'.ownBlock=v.ownBlock∨v'.ownBlock=some w.heap.size:=by
 subst hby
 have hsmall:n+m≤9223372036854775807:=by simp only[maxLen]at h63;omega
 rw[←hsize]at hl
 rcases hown.2 with ⟨rfl,rfl⟩|⟨g,cap,cur,rfl,hbg,hg,hnc,hcm,hcs,htake⟩
 ·by_cases hm:m=0
  ·subst hm
   have hn:news=[]:=List.eq_nil_of_length_eq_zero (by simpa using hl)
   subst hn
   left
   have h2:(Builtin.append_ #[t,t] ty #[.slice none 0 0,.slice (some a) 0 c]).run P w=.ok (.slice none 0 0) w:=by
    simp[Builtin.append_,run_underlying ht,sizeOf,typeInfo,hi,Builtin.lenOf,Builtin.firstCells,loadCells,loadCellsFrom]
   rw[h2]at hr
   cases hr
   rfl
  ·have h2:=run_append_nil (P:=P) w t ty e i z ht hi hz a m c news hl hnews (by omega) (by omega) (by have hb:=hbytes;simp only[Nat.zero_add]at hb;omega)
   rw[h2]at hr
   cases hr
   exact .inr rfl
 ·by_cases hroom:n+m≤cap
  ·have hfit:n*i.size+news.length≤cur.size:=by rw[hl,hcs,hsize];omega
   have h2:=run_append_room (P:=P) w t ty e i ht hi g n cap cur hg a m c news hl hnews h1 hroom hfit
   rw[h2]at hr
   cases hr
   exact .inl rfl
  ·have holds:∀j u,xs[j]? =some u→w.cell? ((⟨g,0,none⟩:Addr).add j)=some u:=hown.cells (g:=g) rfl
   have h2:=run_append_grow (P:=P) w t ty e i z ht hi hz ⟨g,0,none⟩ n cap xs (by rw[hsize];exact hown.1) holds a m c news hl hnews (by omega) (by omega) (growslice_fits (by omega) hbytes)
   rw[h2]at hr
   cases hr
   exact .inr rfl
theorem bU {P:Program} {ops:Array Oper} {rest:List Oper} {o:Oper} {a:Act} {Q:Exit→Act→World→Prop} (k:IntKind) (t e:TypeId) (bytes:Nat) (ht:P.underlying t=some (.slice e))
 (hinfo:(P.info? e).map (fun i=>(i.zero,i.size,i.bytes))=some (some (.int k 0),1,bytes)) (hby:bytes≤8) (hgd:o.guard=none) (s x:Operand) (ho:o.op=.call { callee:=.builtin .append,args:=#[s,x],argTypes:=#[t,t] })
 (base:Nat) (w0 wr:World) (v:Value) (l:LI) (b o' m c:Nat) (news:LI) (hm:news.length=m) (hs:a.eval s=v) (hx:a.eval x=.slice (some ⟨b,o',none⟩) m c) (hown:bM k e base wr v l) (hbel:Below base w0 wr) (hbase:base≤wr.heap.size) (hlen:l.length+m≤1000000000)
 (hnews:∀j,j<m→wr.cell? ⟨b,o'+j,none⟩=some (.int k (news.getD j 0)))
 (h:∀v' w',bM k e base w' v' (l++news)→Below base w0 w'→wr.grownBy w' v.ownBlock→(v'.ownBlock=v.ownBlock∨v'.ownBlock=some wr.heap.size)→wpList P ops Q rest (a.put o.dst v') w'):wpList P ops Q (o::rest) a wr:=by
 obtain⟨i,hi,hz,hsz,hb⟩:=info_parts hinfo
 have g1:∀j u,(iv k news)[j]? =some u→wr.cell? ((⟨b,o',none⟩:Addr).add j)=some u:=by
  intro j u hj
  have hj':j<m:=by
   have:=(List.getElem?_eq_some_iff.1 hj).1
   rw[eT]at this
   omega
  have hadd:(⟨b,o',none⟩:Addr).add j=⟨b,o'+j,none⟩:=by unfold Addr.add;split<;>simp_all
  rw[hadd,hnews j hj']
  rw[IT]at hj
  rw[←hj]
  simp[show j<news.length by omega]
 have g2:l.length+m≤maxLen:=by unfold maxLen;omega
 have g3:(l.length+m)*bytes≤140737488355328:=by
  have:(l.length+m)*bytes≤(l.length+m)*8:=Nat.mul_le_mul_left _ hby
  omega
 have g4:(iv k news).length=m*1:=by rw[eT];omega
 obtain⟨v',w',hr,h1,h2,_⟩:=run_append_own (P:=P) wr base t o.type e i (.int k 0) 1 bytes ht hi hz hsz hb rfl (by decide) v l.length (iv k l) hown ⟨b,o',none⟩ m c (iv k news) g4 g1 (OG k news) g2 g3 hbase
 have h4:=AC ht hi hz hsz hb rfl hown g4 g1 (OG k news) g2 g3 hr
 refine wpList_plain hgd fun K hK=>?_
 unfold Oper.wp execOp
 simp only[ho,resolve,invoke,builtin,Sem.run_bind,Sem.run_pure,Result.andThen_ok,List.map_toArray,List.map_cons,List.map_nil,hs,hx,hr]
 refine hK _ _ (h v' w' ?_ (hbel.grown h2 hbase (fun g hg=>(bM.lt hown g hg).1)) h2 h4)
 unfold bM
 rw[LY,lQ,hm]
 exact h1
theorem cK {P:Program} {ops:Array Oper} {rest:List Oper} {o:Oper} {a:Act} {Q:Exit→Act→World→Prop} (k:IntKind) (t e:TypeId) (bytes:Nat) (ht:P.underlying t=some (.slice e))
 (hinfo:(P.info? e).map (fun i=>(i.zero,i.size,i.bytes))=some (some (.int k 0),1,bytes)) (hby:bytes≤8) (hgd:o.guard=none) (s x:Operand) (ho:o.op=.call { callee:=.builtin .append,args:=#[s,x],argTypes:=#[t,t] })
 (base:Nat) (w0 wr:World) (v:Value) (l:LI) (y:Int) (hs:a.eval s=v) (hx:a.eval x=.slice (some ⟨wr.heap.size,0,none⟩) 1 1) (hown:bM k e base wr v l) (hbel:Below base w0 wr) (hbase:base≤wr.heap.size) (hlen:l.length≤100000000)
 (h:∀v' w',bM k e base w' v' (l++[y])→Below base w0 w'→wr.grownBy w' v.ownBlock→(v'.ownBlock=v.ownBlock∨v'.ownBlock=some (wr.heap.size+1))→wpList P ops Q rest (a.put o.dst v') w'):wpList P ops Q (o::rest) a (wr.alloc (.cells #[.int k y] e)):=by
 refine bU k t e bytes ht hinfo hby hgd s x ho base w0 _ v l wr.heap.size 0 1 1 [y] rfl hs hx (World.ownsRow.alloc hown _) (hbel.alloc hbase _) (by simp;omega) (by omega) ?_ ?_
 ·intro j hj
  obtain rfl:j=0:=by omega
  simp
 ·intro v' w' h1 h2 h3 h4
  refine h v' w' h1 h2 (J8 (World.grownBy_alloc wr (.cells #[.int k y] e) v.ownBlock) h3) ?_
  simpa using h4
theorem FU (w:World) (g i:Nat) (v:Value):w.grownBy (w.setCell ⟨g,i,none⟩ v) (some g):=
 ⟨rfl,rfl,rfl,by simp,fun k hk hne=>heap_setCell_other w ⟨g,i,none⟩ k v (fun e=>hne (by rw[e]))⟩
theorem bM.set {k:IntKind} {e:TypeId} {base:Nat} {w:World} {g n cap:Nat} {l:LI} (h:bM k e base w (.slice (some ⟨g,0,none⟩) n cap) l) (j:Nat) (y:Int):
 bM k e base (w.setCell ⟨g,j,none⟩ (.int k y)) (.slice (some ⟨g,0,none⟩) n cap) (l.set j y):=by
 have hn:n=l.length:=by
  obtain⟨_,⟨hv,_⟩|⟨g',cap',cur,hv,_⟩⟩:=h
  ·cases hv
  ·simp at hv;exact hv.2.1
 subst hn
 unfold bM at*
 rw[ahE,lJ]
 exact(World.ownsRow.stored h j (.int k y)).1
theorem bM.drews {k:IntKind} {e:TypeId} {base:Nat} {w:World} {v:Value} {l:LI} (h:bM k e base w v l) (n:Nat):bM k e base (w.drewN n) v l:=h
theorem bM.later {k:IntKind} {e:TypeId} {base:Nat} {w w':World} {v:Value} {l:LI} (h:bM k e base w v l) (hb:Below w.heap.size w w'):bM k e base w' v l:=
 h.kept (row:=none) ⟨hb.os,hb.tape,hb.output,hb.size,fun j hj _=>hb.block j hj⟩ (by cases hv:v.ownBlock with|none=>exact .inl rfl|some _=>exact .inr (by simp))
def RdK (k:IntKind) (w:World) (a:Option Addr) (d:LI):Prop:=∀i,i<d.length→∃b o,a=some ⟨b,o,none⟩∧w.cell? ⟨b,o+i,none⟩=some (.int k (d.getD i 0))
theorem bM.made {k:IntKind} {e:TypeId} {base:Nat} (w:World) (n:Nat) (hb:base≤w.heap.size) (hn:n≤1000000):bM k e base (w.alloc (.cells (Iv k (rQ n 0)) e)) (.slice (some ⟨w.heap.size,0,none⟩) n n) (rQ n 0):=by
 refine⟨by simp[eT],.inr ⟨w.heap.size,n,Iv k (rQ n 0),by simp,hb,hAN w _,by simp,by unfold maxLen;omega,by simp[aD],?_⟩⟩
 simp[Iv,iv]
theorem bM.take {k:IntKind} {e:TypeId} {base:Nat} {w:World} {g n cap:Nat} {l:LI} (h:bM k e base w (.slice (some ⟨g,0,none⟩) n cap) l) (m:Nat) (hm:m≤n):bM k e base w (.slice (some ⟨g,0,none⟩) m cap) (l.take m):=by
 obtain⟨hl,⟨hv,_⟩|⟨g',cap',cur,hv,hg,hh,hc,hmx,hs,ht⟩⟩:=h
 ·cases hv
 ·simp at hv
  obtain⟨rfl,rfl,rfl⟩:=hv
  have hlen:(l.take m).length=m:=by rw[List.length_take];omega
  refine⟨by simp[eT],.inr ⟨g,cap,cur,by rw[hlen],hg,hh,by omega,hmx,hs,?_⟩⟩
  rw[hlen,Nat.mul_one]at*
  have:(cur.toList.take l.length).take m=(iv k l).take m:=by rw[ht]
  rw[List.take_take,Nat.min_eq_left hm]at this
  rw[this]
  simp[iv]
theorem bM.mono {k:IntKind} {e:TypeId} {base base':Nat} {w:World} {v:Value} {l:LI} (h:bM k e base w v l) (hb:base'≤base):bM k e base' w v l:=by
 obtain⟨hl,⟨hv,hn⟩|⟨g',cap',cur,hv,hg,hh,hc,hmx,hs,ht⟩⟩:=h
 ·exact⟨hl,.inl ⟨hv,hn⟩⟩
 ·exact⟨hl,.inr ⟨g',cap',cur,hv,by omega,hh,hc,hmx,hs,ht⟩⟩
theorem bM.one {k:IntKind} {e:TypeId} {base:Nat} (w:World) (y:Int) (hb:base≤w.heap.size):bM k e base (w.alloc (.cells #[.int k y] e)) (.slice (some ⟨w.heap.size,0,none⟩) 1 1) [y]:=by
 refine⟨by simp[eT],.inr ⟨w.heap.size,1,#[.int k y],by simp,hb,hAN w _,by simp,by unfold maxLen;omega,by simp,?_⟩⟩
 simp[iv]
theorem bM.rdk {k:IntKind} {e:TypeId} {base:Nat} {w:World} {v:Value} {l:LI} (h:bM k e base w v l):∃a n cap,v=.slice a n cap∧n=l.length∧RdK k w a l:=by
 obtain⟨rfl,rfl⟩|⟨g,cap,rfl,hg,hl,hc,hm,hcell,_⟩:=h.at
 ·exact⟨none,0,0,rfl,rfl,fun i hi=>by simp at hi⟩
 ·exact⟨some ⟨g,0,none⟩,l.length,cap,rfl,rfl,fun i hi=>⟨g,0,rfl,by rw[Nat.zero_add];exact hcell i hi⟩⟩
theorem nM {k:IntKind} {e:TypeId} {base:Nat} {w:World} {v:Value} {l:LI} {x y:Int} (h:bM k e base w v (l++[x])) (hxy:x=y):bM k e base w v (l++[y]):=hxy▸h
theorem uS:(prog.info? 32).map (fun i=>(i.zero,i.size,i.bytes))=some (some (.int .u32 0),1,4):=by kernel_rfl
def bI (zs:LI) (n:Nat):LI:=(List.range n).map (aF zs)
theorem PD (zs:LI) (k:Nat):bI zs (k+1)=bI zs k++[aF zs k]:=by simp[bI,List.range_succ]
theorem kH (zs:LI) (k:Nat):(bI zs k).length=k:=by simp[bI]
theorem ZH (zs:LI) (i:Nat) (h:zs.length≤i):zs.getD i 0=0:=by simp[List.getD_eq_getElem?_getD,List.getElem?_eq_none h]
theorem yC (zs:LI) (m n:Nat) (hm:zs.length=m) (hz:aC zs) (hn:n≤1000) (hm2:m≤100000) (a:Option Addr) (cap:Nat) (w:World) (hr:RdK .u8 w a zs):
 Calls prog 24 #[.slice a m cap,.int .i64 n] w fun e w'=>∃v,e=.returned v∧bM .u32 32 w.heap.size w' v (bI zs n)∧Below w.heap.size w w':=by
 go_enter func24,ntmps24
 go_wp2
 go_loopw [5,6] (fun v i wr=>∃k:Nat,k≤n∧i=.int .i64 k∧bM .u32 32 w.heap.size wr v (bI zs k)∧Below w.heap.size w wr) (fun _ i _=>n - (intOf i).toNat)
 case atStart=>
  exact⟨0,Nat.zero_le _,rfl,bM.nil w (nQ _),(Below.refl _ _).alloc (nQ _) _⟩
 case round=>
  obtain⟨k,hk,rfl,hown,hbel⟩:=hrel
  have HS:Hid (bI zs (k+1)=bI zs k++[zs.getD (4*k) 0+256*zs.getD (4*k+1) 0+65536*zs.getD (4*k+2) 0+16777216*zs.getD (4*k+3) 0]):=PD zs k
  have HL:Hid ((bI zs k).length≤100000000):=by show _≤_;rw[kH];omega
  have hsz:=hbel.size
  by_cases hlt:k<n
  ·obtain⟨WX,rfl⟩:∃X,X=wr:=⟨_,rfl⟩
   have hz0:=hz (4*k)
   have hz1:=hz (4*k+1)
   have hz2:=hz (4*k+2)
   have hz3:=hz (4*k+3)
   have HC:Hid (∀i,i<m→∃b o,a=some ⟨b,o,none⟩∧WX.cell? ⟨b,o+i,none⟩=some (.int .u8 (zs.getD i 0))):=by
    intro i hi
    obtain⟨b,o,h1,h2⟩:=hr i (by omega)
    exact⟨b,o,h1,(hbel.cell (p:=⟨b,o+i,none⟩) (wJ _ _ h2)).trans h2⟩
   have HP:Hid (∀i,m≤i→zs.getD i 0=0):=fun i hi=>ZH zs i (by omega)
   clear hr hz
   have hc:m≤4*k∨m=4*k+1∨m=4*k+2∨m=4*k+3∨4*k+4≤m:=by omega
   rcases hc with hc|hc|hc|hc|hc
   ·have p0:Hid (zs.getD (4*k) 0=0):=HP.out _ (by omega)
    have p1:Hid (zs.getD (4*k+1) 0=0):=HP.out _ (by omega)
    have p2:Hid (zs.getD (4*k+2) 0=0):=HP.out _ (by omega)
    have p3:Hid (zs.getD (4*k+3) 0=0):=HP.out _ (by omega)
    have e:Hid (bI zs (k+1)=bI zs k++[0]):=by show _=_;rw[HS.out,p0.out,p1.out,p2.out,p3.out];rfl
    clear HS HP HC p0 p1 p2 p3 hz0 hz1 hz2 hz3
    have h0:¬((4:Int)*k<m):=by omega
    have h1:¬((4:Int)*k+1<m):=by omega
    have h2:¬((4:Int)*k+2<m):=by omega
    have h3:¬((4:Int)*k+3<m):=by omega
    go_wp2
    refine wp_loop_rounds 5 ?_
    iterate 4 (rw[rdS];go_wp2)
    rw[rdS]
    go_wp2_with(at_builtin;refine cK .u32 75 32 4 underlying75 uS (by decide) rfl (.tmp 38) (.tmp 40) rfl w.heap.size w WX _ (bI zs k) _ rfl rfl hown hbel hsz HL.out ?_;intro v' w' hown' hbel' _ _)
    go_roundw
    case rel=>exact⟨k+1,by omega,by go_num,by rw[e.out];exact hown',hbel'⟩
    case measure=>simp[intOf];omega
   ·have hb:∃b o,a=some ⟨b,o,none⟩:=by obtain⟨b,o,h1,_⟩:=HC.out (4*k) (by omega);exact⟨b,o,h1⟩
    obtain⟨b,o,rfl⟩:=hb
    have d0:WX.cell? ⟨b,o+4*k,none⟩=some (.int .u8 (zs.getD (4*k) 0)):=by obtain⟨b',o',h1,h2⟩:=HC.out (4*k) (by omega);simp only[Option.some.injEq,Addr.mk.injEq]at h1;obtain⟨rfl,rfl,_⟩:=h1;exact h2
    have p1:Hid (zs.getD (4*k+1) 0=0):=HP.out _ (by omega)
    have p2:Hid (zs.getD (4*k+2) 0=0):=HP.out _ (by omega)
    have p3:Hid (zs.getD (4*k+3) 0=0):=HP.out _ (by omega)
    generalize zs.getD (4*k) 0=z0 at*
    have e:Hid (bI zs (k+1)=bI zs k++[z0]):=by show _=_;rw[HS.out,p1.out,p2.out,p3.out];congr 2;omega
    clear HS HP HC p1 p2 p3 hz1 hz2 hz3
    obtain⟨x0,y0⟩:=hz0
    have h0:(4:Int)*k<m:=by omega
    have h1:¬((4:Int)*k+1<m):=by omega
    have h2:¬((4:Int)*k+2<m):=by omega
    have h3:¬((4:Int)*k+3<m):=by omega
    clear hc
    go_wp2
    refine wp_loop_rounds 5 ?_
    iterate 4 (rw[rdS];go_wp2)
    rw[rdS]
    go_wp2_with(at_builtin;refine cK .u32 75 32 4 underlying75 uS (by decide) rfl (.tmp 38) (.tmp 40) rfl w.heap.size w WX _ (bI zs k) _ rfl rfl hown hbel hsz HL.out ?_;intro v' w' hown' hbel' _ _)
    go_roundw
    case rel=>
     refine⟨k+1,by omega,by go_num,?_,hbel'⟩
     rw[e.out]
     exact nM hown' (by omega)
    case measure=>simp[intOf];omega
   ·have hb:∃b o,a=some ⟨b,o,none⟩:=by obtain⟨b,o,h1,_⟩:=HC.out (4*k) (by omega);exact⟨b,o,h1⟩
    obtain⟨b,o,rfl⟩:=hb
    have d0:WX.cell? ⟨b,o+4*k,none⟩=some (.int .u8 (zs.getD (4*k) 0)):=by obtain⟨b',o',h1,h2⟩:=HC.out (4*k) (by omega);simp only[Option.some.injEq,Addr.mk.injEq]at h1;obtain⟨rfl,rfl,_⟩:=h1;exact h2
    have d1:WX.cell? ⟨b,o+(4*k+1),none⟩=some (.int .u8 (zs.getD ((4*k+1)) 0)):=by obtain⟨b',o',h1,h2⟩:=HC.out ((4*k+1)) (by omega);simp only[Option.some.injEq,Addr.mk.injEq]at h1;obtain⟨rfl,rfl,_⟩:=h1;exact h2
    have p2:Hid (zs.getD (4*k+2) 0=0):=HP.out _ (by omega)
    have p3:Hid (zs.getD (4*k+3) 0=0):=HP.out _ (by omega)
    generalize zs.getD (4*k) 0=z0 at*
    generalize zs.getD (4*k+1) 0=z1 at*
    have e:Hid (bI zs (k+1)=bI zs k++[z0+256*z1]):=by show _=_;rw[HS.out,p2.out,p3.out];congr 2;omega
    clear HS HP HC p2 p3 hz2 hz3
    obtain⟨x0,y0⟩:=hz0
    obtain⟨x1,y1⟩:=hz1
    have h0:(4:Int)*k<m:=by omega
    have h1:(4:Int)*k+1<m:=by omega
    have h2:¬((4:Int)*k+2<m):=by omega
    have h3:¬((4:Int)*k+3<m):=by omega
    clear hc
    go_wp2
    refine wp_loop_rounds 5 ?_
    iterate 4 (rw[rdS];go_wp2)
    rw[rdS]
    go_wp2_with(at_builtin;refine cK .u32 75 32 4 underlying75 uS (by decide) rfl (.tmp 38) (.tmp 40) rfl w.heap.size w WX _ (bI zs k) _ rfl rfl hown hbel hsz HL.out ?_;intro v' w' hown' hbel' _ _)
    go_roundw
    case rel=>
     refine⟨k+1,by omega,by go_num,?_,hbel'⟩
     rw[e.out]
     exact nM hown' (by omega)
    case measure=>simp[intOf];omega
   ·have hb:∃b o,a=some ⟨b,o,none⟩:=by obtain⟨b,o,h1,_⟩:=HC.out (4*k) (by omega);exact⟨b,o,h1⟩
    obtain⟨b,o,rfl⟩:=hb
    have d0:WX.cell? ⟨b,o+4*k,none⟩=some (.int .u8 (zs.getD (4*k) 0)):=by obtain⟨b',o',h1,h2⟩:=HC.out (4*k) (by omega);simp only[Option.some.injEq,Addr.mk.injEq]at h1;obtain⟨rfl,rfl,_⟩:=h1;exact h2
    have d1:WX.cell? ⟨b,o+(4*k+1),none⟩=some (.int .u8 (zs.getD ((4*k+1)) 0)):=by obtain⟨b',o',h1,h2⟩:=HC.out ((4*k+1)) (by omega);simp only[Option.some.injEq,Addr.mk.injEq]at h1;obtain⟨rfl,rfl,_⟩:=h1;exact h2
    have d2:WX.cell? ⟨b,o+(4*k+2),none⟩=some (.int .u8 (zs.getD ((4*k+2)) 0)):=by obtain⟨b',o',h1,h2⟩:=HC.out ((4*k+2)) (by omega);simp only[Option.some.injEq,Addr.mk.injEq]at h1;obtain⟨rfl,rfl,_⟩:=h1;exact h2
    have p3:Hid (zs.getD (4*k+3) 0=0):=HP.out _ (by omega)
    generalize zs.getD (4*k) 0=z0 at*
    generalize zs.getD (4*k+1) 0=z1 at*
    generalize zs.getD (4*k+2) 0=z2 at*
    have e:Hid (bI zs (k+1)=bI zs k++[z0+256*z1+65536*z2]):=by show _=_;rw[HS.out,p3.out];congr 2;omega
    clear HS HP HC p3 hz3
    obtain⟨x0,y0⟩:=hz0
    obtain⟨x1,y1⟩:=hz1
    obtain⟨x2,y2⟩:=hz2
    have h0:(4:Int)*k<m:=by omega
    have h1:(4:Int)*k+1<m:=by omega
    have h2:(4:Int)*k+2<m:=by omega
    have h3:¬((4:Int)*k+3<m):=by omega
    clear hc
    go_wp2
    refine wp_loop_rounds 5 ?_
    iterate 4 (rw[rdS];go_wp2)
    rw[rdS]
    go_wp2_with(at_builtin;refine cK .u32 75 32 4 underlying75 uS (by decide) rfl (.tmp 38) (.tmp 40) rfl w.heap.size w WX _ (bI zs k) _ rfl rfl hown hbel hsz HL.out ?_;intro v' w' hown' hbel' _ _)
    go_roundw
    case rel=>
     refine⟨k+1,by omega,by go_num,?_,hbel'⟩
     rw[e.out]
     exact nM hown' (by omega)
    case measure=>simp[intOf];omega
   ·have hb:∃b o,a=some ⟨b,o,none⟩:=by obtain⟨b,o,h1,_⟩:=HC.out (4*k) (by omega);exact⟨b,o,h1⟩
    obtain⟨b,o,rfl⟩:=hb
    have d0:WX.cell? ⟨b,o+4*k,none⟩=some (.int .u8 (zs.getD (4*k) 0)):=by obtain⟨b',o',h1,h2⟩:=HC.out (4*k) (by omega);simp only[Option.some.injEq,Addr.mk.injEq]at h1;obtain⟨rfl,rfl,_⟩:=h1;exact h2
    have d1:WX.cell? ⟨b,o+(4*k+1),none⟩=some (.int .u8 (zs.getD ((4*k+1)) 0)):=by obtain⟨b',o',h1,h2⟩:=HC.out ((4*k+1)) (by omega);simp only[Option.some.injEq,Addr.mk.injEq]at h1;obtain⟨rfl,rfl,_⟩:=h1;exact h2
    have d2:WX.cell? ⟨b,o+(4*k+2),none⟩=some (.int .u8 (zs.getD ((4*k+2)) 0)):=by obtain⟨b',o',h1,h2⟩:=HC.out ((4*k+2)) (by omega);simp only[Option.some.injEq,Addr.mk.injEq]at h1;obtain⟨rfl,rfl,_⟩:=h1;exact h2
    have d3:WX.cell? ⟨b,o+(4*k+3),none⟩=some (.int .u8 (zs.getD ((4*k+3)) 0)):=by obtain⟨b',o',h1,h2⟩:=HC.out ((4*k+3)) (by omega);simp only[Option.some.injEq,Addr.mk.injEq]at h1;obtain⟨rfl,rfl,_⟩:=h1;exact h2
    generalize zs.getD (4*k) 0=z0 at*
    generalize zs.getD (4*k+1) 0=z1 at*
    generalize zs.getD (4*k+2) 0=z2 at*
    generalize zs.getD (4*k+3) 0=z3 at*
    have e:Hid (bI zs (k+1)=bI zs k++[z0+256*z1+65536*z2+16777216*z3]):=HS.out
    clear HS HP HC  
    obtain⟨x0,y0⟩:=hz0
    obtain⟨x1,y1⟩:=hz1
    obtain⟨x2,y2⟩:=hz2
    obtain⟨x3,y3⟩:=hz3
    have h0:(4:Int)*k<m:=by omega
    have h1:(4:Int)*k+1<m:=by omega
    have h2:(4:Int)*k+2<m:=by omega
    have h3:(4:Int)*k+3<m:=by omega
    clear hc
    go_wp2
    refine wp_loop_rounds 5 ?_
    iterate 4 (rw[rdS];go_wp2)
    rw[rdS]
    go_wp2_with(at_builtin;refine cK .u32 75 32 4 underlying75 uS (by decide) rfl (.tmp 38) (.tmp 40) rfl w.heap.size w WX _ (bI zs k) _ rfl rfl hown hbel hsz HL.out ?_;intro v' w' hown' hbel' _ _)
    go_roundw
    case rel=>
     refine⟨k+1,by omega,by go_num,?_,hbel'⟩
     rw[e.out]
     exact nM hown' (by omega)
    case measure=>simp[intOf];omega
  ·go_wp2
   go_ret
   obtain rfl:k=n:=by omega
   exact⟨_,rfl,hown,hbel⟩
theorem wG:prog.follows .mixedOrders=true:=by kernel_rfl
theorem AU:(prog.info? 177).map (·.size)=some 16:=by kernel_rfl
theorem XF:(prog.info? 154).map (·.size)=some 8:=by kernel_rfl
theorem DB:(prog.info? 156).map (·.size)=some 74:=by kernel_rfl
structure cN (w:World):Prop where
 mix:∀i,i<8→w.cell? ⟨2,i*4,none⟩=some (.int .u8 (q0 i))∧w.cell? ⟨2,i*4+1,none⟩=some (.int .u8 (q1 i))∧w.cell? ⟨2,i*4+2,none⟩=some (.int .u8 (q2 i))∧w.cell? ⟨2,i*4+3,none⟩=some (.int .u8 (q3 i))
 iv:∀i,i<8→w.cell? ⟨1,i,none⟩=some (.int .u32 (aM mP i))
 order:∀r i,r<10→i<16→w.cell? ⟨3,r*16+i,none⟩=some (.int .u8 (sg r i))
theorem cN.later {B:Nat} {w w':World} (h:cN w) (hb:Below B w w') (hB:w.heap.size≤B):cN w':=by
 refine⟨fun i hi=>?_,fun i hi=>?_,fun r i hr hi=>?_⟩
 ·obtain⟨t0,t1,t2,t3⟩:=h.mix i hi
  have l0:=wJ _ _ t0
  exact⟨(hb.cell (p:=⟨2,i*4,none⟩) (nJ l0 hB)).trans t0,(hb.cell (p:=⟨2,i*4+1,none⟩) (nJ l0 hB)).trans t1,(hb.cell (p:=⟨2,i*4+2,none⟩) (nJ l0 hB)).trans t2,(hb.cell (p:=⟨2,i*4+3,none⟩) (nJ l0 hB)).trans t3⟩
 ·have t:=h.iv i hi
  exact(hb.cell (p:=⟨1,i,none⟩) (nJ (wJ _ _ t) hB)).trans t
 ·have t:=h.order r i hr hi
  exact(hb.cell (p:=⟨3,r*16+i,none⟩) (nJ (wJ _ _ t) hB)).trans t
theorem LP {P:Program} {w:World} {ops:Array Oper} {rest:List Oper} {o:Oper} {a:Act} {Q:Exit→Act→World→Prop} (k:IntKind) (hgd:o.guard=none) (d s:Operand) (dT sT:TypeId)
 (ho:o.op=.call { callee:=.builtin .copy,args:=#[d,s],argTypes:=#[dT,sT] }) (elem:TypeId) (hu:P.underlying dT=some (.slice elem)) (hsz:(P.info? elem).map (·.size)=some 1)
 (g off dLen dCap b o' sLen sCap:Nat) (hd:a.eval d=.slice (some ⟨g,off,none⟩) dLen dCap) (hs:a.eval s=.slice (some ⟨b,o',none⟩) sLen sCap)
 (l zs:LI) (t:TypeId) (hg:aE w g k l t) (hn:zs.length=Nat.min sLen dLen)
 (hsrc:∀j,j<zs.length→w.cell? ⟨b,o'+j,none⟩=some (.int k (zs.getD j 0))) (hfit:off+zs.length≤l.length)
 (h:wpList P ops Q rest (a.put o.dst (goInt zs.length)) (w.setRow g (Iv k (l.take off++(zs++l.drop (off+zs.length)))))):wpList P ops Q (o::rest) a w:=by
 have e:(Iv k (l.take off++(zs++l.drop (off+zs.length))))=((Iv k l).toList.take off++(zs.map (Value.int k)++(Iv k l).toList.drop (off+(zs.map (Value.int k)).length))).toArray:=by
  simp[Iv]
 rw[e]at h
 refine wpList_copy_own hgd d s dT sT ho elem hu hsz g off dLen dCap ⟨b,o',none⟩ sLen sCap hd hs (Iv k l) t hg (zs.map (Value.int k)) (by simpa using hn) ?_ (by simpa[aD]using hfit) ?_ (by simpa using h)
 ·intro j v hj
  have hj':j<zs.length:=by simpa using(List.getElem?_eq_some_iff.1 hj).1
  have hadd:(⟨b,o',none⟩:Addr).add j=⟨b,o'+j,none⟩:=by unfold Addr.add;split<;>simp_all
  rw[hadd,hsrc j hj',←hj]
  simp[hj']
 ·intro v hv
  obtain⟨x,_,rfl⟩:=List.mem_map.1 hv
  rfl
theorem PX {P:Program} {w:World} {ops:Array Oper} {rest:List Oper} {o:Oper} {a:Act} {Q:Exit→Act→World→Prop} (k:IntKind) (hgd:o.guard=none) (d s:Operand) (dT sT:TypeId)
 (ho:o.op=.call { callee:=.builtin .copy,args:=#[d,s],argTypes:=#[dT,sT] }) (elem:TypeId) (hu:P.underlying dT=some (.slice elem)) (hsz:(P.info? elem).map (·.size)=some 1)
 (g off dLen dCap b o' sLen sCap:Nat) (hd:a.eval d=.slice (some ⟨g,off,none⟩) dLen dCap) (hs:a.eval s=.slice (some ⟨b,o',none⟩) sLen sCap)
 (l zs new:LI) (n:Nat) (t:TypeId) (hg:w.heap[g]? =some (.cells (Iv k l) t)) (hz:zs.length=n) (hn:n=Nat.min sLen dLen)
 (hsrc:∀j,j<n→w.cell? ⟨b,o'+j,none⟩=some (.int k (zs.getD j 0))) (hfit:off+n≤l.length) (hnew:l.take off++(zs++l.drop (off+n))=new)
 (h:∀W,nE w g (Iv k new) t W→wpList P ops Q rest (a.put o.dst (.int .i64 n)) W):wpList P ops Q (o::rest) a w:=by
 subst hz
 subst hnew
 exact LP k hgd d s dT sT ho elem hu hsz g off dLen dCap b o' sLen sCap hd hs l zs t hg hn hsrc hfit (h _ (fT hg _))
def HV (h:LI) (t:Int) (b:LI) (f:Int):List Value:=h.map (Value.int .u32)++(.int .u64 t::(b.map (Value.int .u8)++[.int .i64 f]))
def dS (h:LI) (t:Int) (b:LI) (f:Int):Array Value:=(HV h t b f).toArray
theorem CU (h:LI) (t:Int) (b:LI) (f:Int) (hh:h.length=8) (hb:b.length=64):(HV h t b f).length=74:=by simp[HV,hh,hb]
theorem fE (h:LI) (t:Int) (b:LI) (f:Int) (hh:h.length=8) (hb:b.length=64):(dS h t b f).size=74:=by simp[dS,CU h t b f hh hb]
theorem pZ (h:LI) (t:Int) (b:LI) (f:Int):(dS h t b f).all (·.oneCell')=true:=by simp[dS,HV,Value.oneCell']
theorem IQ (h:LI) (t:Int) (b:LI) (f:Int) (hh:h.length=8) (i:Nat) (hi:i<8):(dS h t b f)[i]? =some (.int .u32 (aM h i)):=by
 simp[dS,HV,aM,List.getElem?_append,hh,hi]
theorem LX (h:LI) (t:Int) (b:LI) (f:Int) (hh:h.length=8):(dS h t b f)[8]? =some (.int .u64 t):=by
 simp[dS,HV,hh]
theorem acF (h:LI) (t:Int) (b:LI) (f:Int) (hh:h.length=8) (hb:b.length=64) (i:Nat) (hi:i<64):(dS h t b f)[9+i]? =some (.int .u8 (b.getD i 0)):=by
 simp only[dS,HV,List.getElem?_toArray,List.getElem?_append,lU,hh]
 rw[if_neg (by omega),show 9+i - 8=i+1 by omega,List.getElem?_cons_succ,List.getElem?_append,lU,hb,if_pos hi]
 simp[hb,hi]
theorem pC (h:LI) (t:Int) (b:LI) (f:Int) (hh:h.length=8) (hb:b.length=64):(dS h t b f)[73]? =some (.int .i64 f):=by
 simp[dS,HV,hh,hb]
theorem EJ (h:LI) (t:Int) (b:LI) (f:Int) (hh:h.length=8) (i:Nat) (hi:i<8) (x:Int):(dS h t b f).setIfInBounds i (.int .u32 x)=dS (h.set i x) t b f:=by
 unfold dS HV
 rw[sU,List.set_append,if_pos (by simp;omega),←List.map_set]
theorem N8 (h:LI) (t:Int) (b:LI) (f:Int) (hh:h.length=8) (x:Int):(dS h t b f).setIfInBounds 8 (.int .u64 x)=dS h x b f:=by
 unfold dS HV
 rw[sU,List.set_append,if_neg (by simp;omega)]
 simp[hh]
theorem vV (h:LI) (t:Int) (b:LI) (f:Int) (hh:h.length=8) (hb:b.length=64) (x:Int):(dS h t b f).setIfInBounds 73 (.int .i64 x)=dS h t b x:=by
 unfold dS HV
 rw[sU,List.set_append,if_neg (by simp;omega)]
 simp[hh,hb]
theorem abI (h:LI) (t:Int) (b:LI) (f:Int) (hh:h.length=8) (hb:b.length=64) (o:Nat) (zs:LI) (ho:o+zs.length≤64):
 (HV h t b f).take (9+o)++(zs.map (Value.int .u8)++(HV h t b f).drop (9+o+(zs.map (Value.int .u8)).length))=HV h t (b.take o++(zs++b.drop (o+zs.length))) f:=by
 have e1:(HV h t b f).take (9+o)=h.map (Value.int .u32)++(.int .u64 t::(b.take o).map (Value.int .u8)):=by
  unfold HV
  rw[List.take_append,lU,hh,show 9+o - 8=o+1 by omega,List.take_of_length_le (by simp;omega),tU,List.take_append_of_le_length (by simp;omega),List.map_take]
 have e2:(HV h t b f).drop (9+o+(zs.map (Value.int .u8)).length)=(b.drop (o+zs.length)).map (Value.int .u8)++[.int .i64 f]:=by
  unfold HV
  rw[lU,List.drop_append,lU,hh,List.drop_eq_nil_of_le (by simp;omega),nA,show 9+o+zs.length - 8=(o+zs.length)+1 by omega,dJ,List.drop_append_of_le_length (by simp;omega),List.map_drop]
 rw[e1,e2]
 simp[HV]
theorem LR {P:Program} {w:World} {ops:Array Oper} {rest:List Oper} {o:Oper} {a:Act} {Q:Exit→Act→World→Prop} (k:IntKind) (hgd:o.guard=none) (d s:Operand) (dT sT:TypeId)
 (ho:o.op=.call { callee:=.builtin .copy,args:=#[d,s],argTypes:=#[dT,sT] }) (elem:TypeId) (hu:P.underlying dT=some (.slice elem)) (hsz:(P.info? elem).map (·.size)=some 1)
 (g off dLen dCap b o' sLen sCap:Nat) (hd:a.eval d=.slice (some ⟨g,off,none⟩) dLen dCap) (hs:a.eval s=.slice (some ⟨b,o',none⟩) sLen sCap)
 (l:List Value) (zs:LI) (new:List Value) (n:Nat) (t:TypeId) (hg:w.heap[g]? =some (.cells l.toArray t)) (hz:zs.length=n) (hn:n=Nat.min sLen dLen)
 (hsrc:∀j,j<n→w.cell? ⟨b,o'+j,none⟩=some (.int k (zs.getD j 0))) (hfit:off+n≤l.length) (hnew:l.take off++(zs.map (Value.int k)++l.drop (off+(zs.map (Value.int k)).length))=new)
 (h:∀W,nE w g new.toArray t W→wpList P ops Q rest (a.put o.dst (.int .i64 n)) W):wpList P ops Q (o::rest) a w:=by
 subst hz
 subst hnew
 refine wpList_copy_own hgd d s dT sT ho elem hu hsz g off dLen dCap ⟨b,o',none⟩ sLen sCap hd hs l.toArray t hg (zs.map (Value.int k)) (by simpa using hn) ?_ (by simpa using hfit) ?_ ?_
 ·intro j v hj
  have hj':j<zs.length:=by simpa using(List.getElem?_eq_some_iff.1 hj).1
  have hadd:(⟨b,o',none⟩:Addr).add j=⟨b,o'+j,none⟩:=by unfold Addr.add;split<;>simp_all
  rw[hadd,hsrc j hj',←hj]
  simp[hj']
 ·intro v hv
  obtain⟨x,_,rfl⟩:=List.mem_map.1 hv
  rfl
 ·have:=h _ (fT hg _)
  simpa[goInt]using this
def qO (h:LI) (k:Nat):LI:=h.take k++rQ (8 - k) 0++(mP.take k++rQ (8 - k) 0)
theorem AJ (h:LI) (k:Nat) (hh:h.length=8) (hk:k≤8):(qO h k).length=16:=by simp[qO,hh,mP];omega
theorem IL (h:LI):qO h 0=rQ 16 0:=rfl
theorem IJ (h:LI) (hh:h.length=8):qO h 8=h++mP:=by simp[qO,←hh];simp[hh,mP]
theorem IK (h:LI) (k:Nat) (hh:h.length=8) (hk:k<8):((qO h k).set k (aM h k)).set (k+8) (aM mP k)=qO h (k+1):=by
 match h,hh with
 | [a0,a1,a2,a3,a4,a5,a6,a7],_=>
   have hc:k=0∨k=1∨k=2∨k=3∨k=4∨k=5∨k=6∨k=7:=by omega
   rcases hc with rfl|rfl|rfl|rfl|rfl|rfl|rfl|rfl<;>rfl
theorem M9 (h:LI) (hh:h.length=8):(h++mP).getD 12 0=1359893119∧(h++mP).getD 13 0=2600822924∧(h++mP).getD 14 0=528734635:=by
 refine⟨?_,?_,?_⟩<;>(simp only[List.getD_eq_getElem?_getD,List.getElem?_append,hh];rfl)
theorem KU (h b:LI) (t:Nat) (fv:Int) (last:Bool) (w:World) (hh:h.length=8) (hb:b.length=64) (ht63:t<9223372036854775808) (ht:cN w) (Bf:LI) (HBF:Hid (vJ h t last=Bf)) (hBf:Bf.length=16):
 Calls prog 109 #[.agg (dS h t b fv),.bool last] w fun e w'=>e=.returned (.agg (Iv .u32 Bf))∧Below w.heap.size w w':=by
 have HT:Hid _:=ht
 clear ht
 go_enter func109,ntmps109
 go_wp2
 go_loopw [7] (fun i wr=>∃j:Nat,j≤8∧i=.int .i64 j∧wr.heap[w.heap.size]? =some (.cells (dS h t b fv) 156)∧aE wr (w.heap.size+1) .u32 (rQ 16 0) 177∧aE wr (w.heap.size+1+1) .u32 (qO h j) 177∧Below w.heap.size w wr) (fun i _=>8 - (intOf i).toNat)
 case atStart=>
  obtain⟨W,hW,h0,h1,h2,hs,hb⟩:=pL w (.cells (dS h t b fv) 156) (.cells (Iv .u32 (rQ 16 0)) 177) (.cells (Iv .u32 (rQ 16 0)) 177)
  subst hW
  exact⟨0,by omega,rfl,h0,h1,by rw[IL];exact h2,hb⟩
 case round=>
  obtain⟨j,hj,rfl,hg,hgr,hgv,hbel⟩:=hrel
  by_cases hlt:j<8
  ·have ci:=(HT.out.later hbel (nQ _)).iv j hlt
   have cw:wr.cell? ⟨w.heap.size,j,none⟩=some (.int .u32 (aM h j)):=by rw[cell_of_row _ _ _ _ _ _ hg,IQ h t b fv hh j hlt]
   have HS:Hid (((qO h j).set j (aM h j)).set (j+8) (aM mP j)=qO h (j+1)):=IK h j hh hlt
   have hL:=AJ h j hh (by omega)
   generalize qO h j=L at*
   generalize aM h j=x at*
   generalize aM mP j=y at*
   have cv:wr.cell? ⟨w.heap.size+1+1,j,none⟩=some (.int .u32 (L.getD j 0)):=aE.cell hgv j (by omega)
   have cv8:wr.cell? ⟨w.heap.size+1+1,j+8,none⟩=some (.int .u32 (L.getD (j+8) 0)):=aE.cell hgv (j+8) (by omega)
   have f0:wr.frozen? ⟨w.heap.size+1+1,j,none⟩=false:=frozen_of_row _ _ _ _ _ hgv
   have f8:wr.frozen? ⟨w.heap.size+1+1,j+8,none⟩=false:=frozen_of_row _ _ _ _ _ hgv
   have HG:Hid _:=hg
   have HGR:Hid _:=hgr
   have HGV:Hid _:=hgv
   have HBL:Hid _:=hbel
   have i8:(j:Int)+8<16:=by omega
   clear hg hgr hgv hbel
   go_wp2
   go_roundw
   case rel=>
    refine⟨j+1,by omega,by go_num,?_,?_,?_,?_⟩
    ·rw[heap_setCell_other _ _ _ _ (by simp;omega),heap_setCell_other _ _ _ _ (by simp;omega)]
     exact HG.out
    ·exact aE.setFar (aE.setFar (show aE wr _ .u32 _ _ from HGR.out) _ _ (by simp)) _ _ (by simp)
    ·rw[←HS.out]
     exact aE.setCell (aE.setCell (show aE wr _ .u32 L _ from HGV.out) j x) (j+8) y
    ·exact(HBL.out.setCell (by simp;omega) _).setCell (by simp;omega) _
   case measure=>simp[intOf];omega
  ·obtain rfl:j=8:=by omega
   rw[IJ h hh]at hgv
   obtain⟨v12,v13,v14⟩:=M9 h hh
   have hL:(h++mP).length=16:=by simp[hh,mP]
   have c12:wr.cell? ⟨w.heap.size+1+1,12,none⟩=some (.int .u32 1359893119):=by rw[←v12];exact aE.cell hgv 12 (by omega)
   have c13:wr.cell? ⟨w.heap.size+1+1,13,none⟩=some (.int .u32 2600822924):=by rw[←v13];exact aE.cell hgv 13 (by omega)
   have c14:wr.cell? ⟨w.heap.size+1+1,14,none⟩=some (.int .u32 528734635):=by rw[←v14];exact aE.cell hgv 14 (by omega)
   have f12:wr.frozen? ⟨w.heap.size+1+1,12,none⟩=false:=frozen_of_row _ _ _ _ _ hgv
   have f13:wr.frozen? ⟨w.heap.size+1+1,13,none⟩=false:=frozen_of_row _ _ _ _ _ hgv
   have f14:wr.frozen? ⟨w.heap.size+1+1,14,none⟩=false:=frozen_of_row _ _ _ _ _ hgv
   have ct:wr.cell? ⟨w.heap.size,8,none⟩=some (.int .u64 t):=by rw[cell_of_row _ _ _ _ _ _ hg,LX h t b fv hh]
   have hi:Hid ((prog.info? 177).map (·.size)=some (Iv .u32 Bf).size):=by show _=_;rw[aD,hBf];exact AU
   have hz:Hid ((Iv .u32 (rQ 16 0)).size=(Iv .u32 Bf).size):=by show _=_;rw[aD,aD,hBf,rJ]
   have HGR:Hid _:=hgr
   have HGV:Hid _:=hgv
   have HBL:Hid _:=hbel
   have ht0:(0:Int)≤t:=by omega
   have ht1:(t:Int)<9223372036854775808:=by omega
   clear hg hgr hgv hbel v12 v13 v14 hL
   obtain⟨k12,e12⟩:∃x:Int,x=1359893119:=⟨_,rfl⟩
   obtain⟨k13,e13⟩:∃x:Int,x=2600822924:=⟨_,rfl⟩
   obtain⟨k14,e14⟩:∃x:Int,x=528734635:=⟨_,rfl⟩
   rw[←e12]at c12
   rw[←e13]at c13
   rw[←e14]at c14
   have E12:Hid _:=e12
   have E13:Hid _:=e13
   have E14:Hid _:=e14
   clear e12 e13 e14
   have HTT:Hid (vJ h t last=if last then(((h++mP).set 12 (xr k12 ((t:Int)%4294967296))).set 13 (xr k13 ((t:Int) / 4294967296))).set 14 (xr k14 4294967295)else((h++mP).set 12 (xr k12 ((t:Int)%4294967296))).set 13 (xr k13 ((t:Int) / 4294967296))):=by
    show _=_
    rw[E12.out,E13.out,E14.out]
    unfold vJ JT
    rw[Int.natCast_emod,Int.natCast_ediv]
    rfl
   generalize(t:Int)=tt at*
   cases last with
   | false=>
     go_wp2_with(first|refine wpLr rfl 177 _ rfl (w.heap.size+1+1) rfl 177 (Iv .u32 Bf) (0,0) _ ?hv underlying177 rfl hi.out ?_ |refine wpList_store_row rfl 177 _ _ rfl (w.heap.size+1) (Iv .u32 Bf) rfl rfl 177 (Iv .u32 (rQ 16 0)) ?hr hi.out hz.out (aG _ _) ?_)
     case hv=>
      have e:=HTT.out
      rw[HBF.out,if_neg (by simp)]at e
      rw[e]
      exact aE.setCell (aE.setCell (show aE wr _ .u32 (h++mP) _ from HGV.out) 12 _) 13 _
     case hr=>exact aE.setFar (aE.setFar (show aE wr _ .u32 _ _ from HGR.out) _ _ (by simp)) _ _ (by simp)
     refine pW (cs:=Iv .u32 Bf) results109 ?_ (setRow_heap _ _ _ _ _ _ (aE.setFar (aE.setFar (show aE wr _ .u32 _ _ from HGR.out) _ _ (by simp)) _ _ (by simp))) underlying177 hi.out ?_
     ·rfl
     ·exact⟨rfl,aO ((HBL.out.setCell (by simp;omega) _).setCell (by simp;omega) _) _ (by omega) _⟩
   | true=>
     go_wp2_with(first|refine wpLr rfl 177 _ rfl (w.heap.size+1+1) rfl 177 (Iv .u32 Bf) (0,0) _ ?hv underlying177 rfl hi.out ?_ |refine wpList_store_row rfl 177 _ _ rfl (w.heap.size+1) (Iv .u32 Bf) rfl rfl 177 (Iv .u32 (rQ 16 0)) ?hr hi.out hz.out (aG _ _) ?_)
     case hv=>
      have e:=HTT.out
      rw[HBF.out,if_pos trivial]at e
      rw[e]
      exact aE.setCell (aE.setCell (aE.setCell (show aE wr _ .u32 (h++mP) _ from HGV.out) 12 _) 13 _) 14 _
     case hr=>exact aE.setFar (aE.setFar (aE.setFar (show aE wr _ .u32 _ _ from HGR.out) _ _ (by simp)) _ _ (by simp)) _ _ (by simp)
     refine pW (cs:=Iv .u32 Bf) results109 ?_ (setRow_heap _ _ _ _ _ _ (aE.setFar (aE.setFar (aE.setFar (show aE wr _ .u32 _ _ from HGR.out) _ _ (by simp)) _ _ (by simp)) _ _ (by simp))) underlying177 hi.out ?_
     ·rfl
     ·exact⟨rfl,aO (((HBL.out.setCell (by simp;omega) _).setCell (by simp;omega) _).setCell (by simp;omega) _) _ (by omega) _⟩
theorem ad9 (a b x:Int):ad3 a b x=(a+(b+x)%4294967296)%4294967296:=by unfold ad3;omega
theorem aiM (x:Int) (w:World) (h:gG x):Calls prog 135 #[.int .u32 x,.int .i64 (-16)] w fun e w'=>e=.returned (.int .u32 (rl 16 x))∧w'=w:=by
 have hr:=(ajW x h).2
 have hm:bits .and .u64 (IntKind.u64.wrap (-16)) 31=16:=by kernel_rfl
 obtain⟨h0,h1⟩:=h
 go_enter func135,ntmps135
 go_wp2
 go_ret
 exact⟨rfl,rfl⟩
theorem aiL (x:Int) (w:World) (h:gG x):Calls prog 135 #[.int .u32 x,.int .i64 (-12)] w fun e w'=>e=.returned (.int .u32 (rl 20 x))∧w'=w:=by
 have hr:=(alG x h).2
 have hm:bits .and .u64 (IntKind.u64.wrap (-12)) 31=20:=by kernel_rfl
 obtain⟨h0,h1⟩:=h
 go_enter func135,ntmps135
 go_wp2
 go_ret
 exact⟨rfl,rfl⟩
theorem akD (x:Int) (w:World) (h:gG x):Calls prog 135 #[.int .u32 x,.int .i64 (-8)] w fun e w'=>e=.returned (.int .u32 (rl 24 x))∧w'=w:=by
 have hr:=(ajX x h).2
 have hm:bits .and .u64 (IntKind.u64.wrap (-8)) 31=24:=by kernel_rfl
 obtain⟨h0,h1⟩:=h
 go_enter func135,ntmps135
 go_wp2
 go_ret
 exact⟨rfl,rfl⟩
theorem akC (x:Int) (w:World) (h:gG x):Calls prog 135 #[.int .u32 x,.int .i64 (-7)] w fun e w'=>e=.returned (.int .u32 (rl 25 x))∧w'=w:=by
 have hr:=(ajY x h).2
 have hm:bits .and .u64 (IntKind.u64.wrap (-7)) 31=25:=by kernel_rfl
 obtain⟨h0,h1⟩:=h
 go_enter func135,ntmps135
 go_wp2
 go_ret
 exact⟨rfl,rfl⟩
theorem NM (a b c d x y:Int) (w:World) (ha:gG a) (hb:gG b) (hc:gG c) (hd:gG d) (hx:gG x) (hy:gG y):
 Calls prog 122 #[.int .u32 a,.int .u32 b,.int .u32 c,.int .u32 d,.int .u32 x,.int .u32 y] w fun e w'=>e=.returned (.tuple #[.int .u32 (gA a b c d x y),.int .u32 (gB a b c d x y),.int .u32 (gC a b c d x y),.int .u32 (gD a b c d x y)])∧w'=w:=by
 go_enter func122,ntmps122
 go_wp2_with fail
 refine(aiM _ _ (iY _ _)).mono ?_
 rintro e w1 ⟨rfl,rfl⟩
 go_wp2_with fail
 refine(aiL _ _ (iY _ _)).mono ?_
 rintro e w1 ⟨rfl,rfl⟩
 go_wp2_with fail
 refine(akD _ _ (iY _ _)).mono ?_
 rintro e w1 ⟨rfl,rfl⟩
 go_wp2_with fail
 refine(akC _ _ (iY _ _)).mono ?_
 rintro e w1 ⟨rfl,rfl⟩
 go_wp2_with fail
 refine bodyPost_ret (v:=.tuple #[.int .u32 _,.int .u32 _,.int .u32 _,.int .u32 _]) (by simp[results,results122,go_sem,gA,gB,gC,gD,gA1,gB1,gC1,gD1,ad9,ad]) rfl ⟨rfl,rfl⟩
theorem iK {W W0:World} {g p:Nat} {v:Value} (h:∃cs,W.drew=W0.drew.setRow g cs):∃cs,(W.setCell ⟨g,p,none⟩ v).drew=W0.drew.setRow g cs:=by
 obtain⟨cs,h⟩:=h
 refine⟨cs.setIfInBounds p v,?_⟩
 rw[←aK,←h]
 rfl
theorem GY (l m:LI) (r:Nat) (w:World) (hl:l.length=16) (h:bJ l) (hm:m.length=16) (hmw:bJ m) (hr:r<10) (ht:cN w) (Bf:LI) (HBF:Hid (∀L:LI,jN l m r 8=L→L=Bf)):
 Calls prog 110 #[.agg (Iv .u32 l),.agg (Iv .u32 m),.int .i64 r] w fun e w'=>e=.returned (.agg (Iv .u32 Bf))∧Below w.heap.size w w':=by
 have hri:(r:Int)<10:=by omega
 have HT:Hid _:=ht
 have HMW:Hid _:=hmw
 clear ht hmw
 go_enter func110,ntmps110
 go_wp2
 go_loopw [11] (fun i wr=>∃j:Nat,j≤8∧i=.int .i64 j∧aE wr w.heap.size .u32 (jN l m r j) 177∧aE wr (w.heap.size+1) .u32 m 177∧aE wr (w.heap.size+1+1) .u32 (rQ 16 0) 177∧Below w.heap.size w wr) (fun i _=>8 - (intOf i).toNat)
 case atStart=>
  obtain⟨W,hW,h0,h1,h2,hs,hb⟩:=pL w (.cells (Iv .u32 l) 177) (.cells (Iv .u32 m) 177) (.cells (Iv .u32 (rQ 16 0)) 177)
  subst hW
  exact⟨0,by omega,rfl,h0,h1,h2,hb⟩
 case round=>
  obtain⟨j,hj,rfl,hg,hgm,hgz,hbel⟩:=hrel
  by_cases hlt:j<8
  ·have hTw:=HT.out.later hbel (nQ _)
   obtain⟨c0,c1,c2,c3⟩:=hTw.mix j hlt
   have hx:=hTw.order r (2*j) hr (by omega)
   have hy:=hTw.order r (2*j+1) hr (by omega)
   clear hTw
   obtain⟨l0,l1,l2,l3⟩:=afF j hlt
   have HL:Hid (jN l m r (j+1)=sS (jN l m r j) (q0 j) (q1 j) (q2 j) (q3 j) (aM m (sg r (2*j))) (aM m (sg r (2*j+1)))):=rfl
   have hLl:(jN l m r j).length=16:=by rw[kW,hl]
   have hLa:bJ (jN l m r j):=AD h m r j
   have hsx:=X9 r (2*j)
   have hsy:=X9 r (2*j+1)
   have wx:gG (aM m (sg r (2*j))):=HMW.out _
   have wy:gG (aM m (sg r (2*j+1))):=HMW.out _
   have hmx:wr.cell? ⟨w.heap.size+1,sg r (2*j),none⟩=some (.int .u32 (aM m (sg r (2*j)))):=hgm.cell _ (by omega)
   have hmy:wr.cell? ⟨w.heap.size+1,sg r (2*j+1),none⟩=some (.int .u32 (aM m (sg r (2*j+1)))):=hgm.cell _ (by omega)
   have hlv:=hg.lt
   have hlm:=hgm.lt
   have hlz:=hgz.lt
   generalize aM m (sg r (2*j))=x at*
   generalize aM m (sg r (2*j+1))=y at*
   generalize sg r (2*j)=sx at*
   generalize sg r (2*j+1)=sy at*
   generalize jN l m r j=L at*
   obtain⟨b0,b1,b1',b2,b2',b3,b3'⟩:=afE j hlt
   have w0:gG (aM L (q0 j)):=hLa (q0 j)
   have e0:Hid ((Iv .u32 L)[q0 j]? =some (.int .u32 (aM L (q0 j)))):=by show _=_;rw[dG _ _ _ (by omega)];simp[aM,show q0 j<L.length by omega]
   have w1:gG (aM L (q1 j)):=hLa (q1 j)
   have e1:Hid ((Iv .u32 L)[q1 j]? =some (.int .u32 (aM L (q1 j)))):=by show _=_;rw[dG _ _ _ (by omega)];simp[aM,show q1 j<L.length by omega]
   have w2:gG (aM L (q2 j)):=hLa (q2 j)
   have e2:Hid ((Iv .u32 L)[q2 j]? =some (.int .u32 (aM L (q2 j)))):=by show _=_;rw[dG _ _ _ (by omega)];simp[aM,show q2 j<L.length by omega]
   have w3:gG (aM L (q3 j)):=hLa (q3 j)
   have e3:Hid ((Iv .u32 L)[q3 j]? =some (.int .u32 (aM L (q3 j)))):=by show _=_;rw[dG _ _ _ (by omega)];simp[aM,show q3 j<L.length by omega]
   have HM:Hid (sS L (q0 j) (q1 j) (q2 j) (q3 j) x y=(((L.set (q0 j) (gA (aM L (q0 j)) (aM L (q1 j)) (aM L (q2 j)) (aM L (q3 j)) x y)).set (q1 j) (gB (aM L (q0 j)) (aM L (q1 j)) (aM L (q2 j)) (aM L (q3 j)) x y)).set (q2 j) (gC (aM L (q0 j)) (aM L (q1 j)) (aM L (q2 j)) (aM L (q3 j)) x y)).set (q3 j) (gD (aM L (q0 j)) (aM L (q1 j)) (aM L (q2 j)) (aM L (q3 j)) x y)):=rfl
   have n01:¬q0 j=q1 j:=by omega
   have m01:¬q1 j=q0 j:=by omega
   have n02:¬q0 j=q2 j:=by omega
   have m02:¬q2 j=q0 j:=by omega
   have n03:¬q0 j=q3 j:=by omega
   have m03:¬q3 j=q0 j:=by omega
   have n12:¬q1 j=q2 j:=by omega
   have m12:¬q2 j=q1 j:=by omega
   have n13:¬q1 j=q3 j:=by omega
   have m13:¬q3 j=q1 j:=by omega
   have n23:¬q2 j=q3 j:=by omega
   have m23:¬q3 j=q2 j:=by omega
   clear b0 b1 b1' b2 b2' b3 b3' hLa h hl hm hr
   generalize q0 j=p0 at*
   generalize aM L p0=x0 at*
   generalize q1 j=p1 at*
   generalize aM L p1=x1 at*
   generalize q2 j=p2 at*
   generalize aM L p2=x2 at*
   generalize q3 j=p3 at*
   generalize aM L p3=x3 at*
   have i0:(p0:Int)<16:=by omega
   have i1:(p1:Int)<16:=by omega
   have i2:(p2:Int)<16:=by omega
   have i3:(p3:Int)<16:=by omega
   have isx:(sx:Int)<16:=by omega
   have isy:(sy:Int)<16:=by omega
   have ij:(2:Int)*(j:Int)<16:=by omega
   have ij1:(2:Int)*(j:Int)+1<16:=by omega
   have HG:Hid _:=hg
   have HGM:Hid _:=hgm
   have HGZ:Hid _:=hgz
   have HBL:Hid _:=hbel
   clear hg hgm hgz hbel
   go_wp2_with fail
   obtain⟨W0,hW0⟩:∃X,X=wr.alloc (.cells #[.int .u8 p0,.int .u8 p1,.int .u8 p2,.int .u8 p3] 212):=⟨_,rfl⟩
   rw[←hW0]
   have hbA:Below wr.heap.size wr W0:=by rw[hW0];exact(Below.refl _ _).alloc (nQ _) _
   have pc0:W0.cell? ⟨wr.heap.size,0,none⟩=some (.int .u8 p0):=by rw[hW0];simp
   have pc1:W0.cell? ⟨wr.heap.size,1,none⟩=some (.int .u8 p1):=by rw[hW0];simp
   have pc2:W0.cell? ⟨wr.heap.size,2,none⟩=some (.int .u8 p2):=by rw[hW0];simp
   have pc3:W0.cell? ⟨wr.heap.size,3,none⟩=some (.int .u8 p3):=by rw[hW0];simp
   have hxW:=(hbA.cell (p:=⟨3,r*16+2*j,none⟩) (wJ _ _ hx)).trans hx
   have hyW:=(hbA.cell (p:=⟨3,r*16+(2*j+1),none⟩) (wJ _ _ hy)).trans hy
   have hmxW:=(hbA.cell (p:=⟨w.heap.size+1,sx,none⟩) hlm).trans hmx
   have hmyW:=(hbA.cell (p:=⟨w.heap.size+1,sy,none⟩) hlm).trans hmy
   have hgW:=(show aE wr w.heap.size .u32 L 177 from HG.out).below hbA hlv
   have hgmW:=(show aE wr (w.heap.size+1) .u32 m 177 from HGM.out).below hbA hlm
   have hgzW:=(show aE wr (w.heap.size+1+1) .u32 (rQ 16 0) 177 from HGZ.out).below hbA hlz
   have hbW:Below w.heap.size w W0:=HBL.out.trans (hbA.mono HBL.out.size)
   clear hW0 hbA hx hy hmx hmy HG HGM HGZ HBL c0 c1 c2 c3
   generalize wr.heap.size=pb at*
   have HG:Hid _:=hgW
   have HGM:Hid _:=hgmW
   have HGZ:Hid _:=hgzW
   have HBL:Hid _:=hbW
   clear hgW hgmW hgzW hbW
   go_quiet (fail)
   obtain⟨W1,hW1⟩:∃X,X=W0.drewN nq:=⟨_,rfl⟩
   rw[←hW1]
   replace pc0:W1.cell? ⟨pb,0,none⟩=some (.int .u8 p0):=by rw[hW1];exact pc0
   replace pc1:W1.cell? ⟨pb,1,none⟩=some (.int .u8 p1):=by rw[hW1];exact pc1
   replace pc2:W1.cell? ⟨pb,2,none⟩=some (.int .u8 p2):=by rw[hW1];exact pc2
   replace pc3:W1.cell? ⟨pb,3,none⟩=some (.int .u8 p3):=by rw[hW1];exact pc3
   have hgW:aE W1 w.heap.size .u32 L 177:=by rw[hW1];exact HG.out
   have hgmW:aE W1 (w.heap.size+1) .u32 m 177:=by rw[hW1];exact HGM.out
   have hgzW:aE W1 (w.heap.size+1+1) .u32 (rQ 16 0) 177:=by rw[hW1];exact HGZ.out
   have hbW:Below w.heap.size w W1:=by rw[hW1];exact bDr HBL.out nq
   clear hW1 hxW hyW hmxW hmyW HG HGM HGZ HBL
   clear W0 nq
   have HG:Hid _:=hgW
   have HGM:Hid _:=hgmW
   have HGZ:Hid _:=hgzW
   have HBL:Hid _:=hbW
   have r0:W1.cell? ⟨w.heap.size,p0,none⟩=some (.int .u32 x0):=by rw[cell_of_row _ _ _ _ _ _ hgW];exact e0.out
   have f0:W1.frozen? ⟨w.heap.size,p0,none⟩=false:=frozen_of_row _ _ _ _ _ hgW
   have r1:W1.cell? ⟨w.heap.size,p1,none⟩=some (.int .u32 x1):=by rw[cell_of_row _ _ _ _ _ _ hgW];exact e1.out
   have f1:W1.frozen? ⟨w.heap.size,p1,none⟩=false:=frozen_of_row _ _ _ _ _ hgW
   have r2:W1.cell? ⟨w.heap.size,p2,none⟩=some (.int .u32 x2):=by rw[cell_of_row _ _ _ _ _ _ hgW];exact e2.out
   have f2:W1.frozen? ⟨w.heap.size,p2,none⟩=false:=frozen_of_row _ _ _ _ _ hgW
   have r3:W1.cell? ⟨w.heap.size,p3,none⟩=some (.int .u32 x3):=by rw[cell_of_row _ _ _ _ _ _ hgW];exact e3.out
   have f3:W1.frozen? ⟨w.heap.size,p3,none⟩=false:=frozen_of_row _ _ _ _ _ hgW
   have S0:Hid (∃cs,W1.drew=W1.drew.setRow w.heap.size cs):=⟨_,(iE W1.drew w.heap.size (Iv .u32 L) 177 (0,0) hgW).symm⟩
   have pq0:∀cs,(W1.drew.setRow w.heap.size cs).cell? ⟨pb,0,none⟩=some (.int .u8 p0):=fun cs=>by rw[bB _ _ _ _ (by show pb≠_;omega)];exact pc0
   have pq1:∀cs,(W1.drew.setRow w.heap.size cs).cell? ⟨pb,1,none⟩=some (.int .u8 p1):=fun cs=>by rw[bB _ _ _ _ (by show pb≠_;omega)];exact pc1
   have pq2:∀cs,(W1.drew.setRow w.heap.size cs).cell? ⟨pb,2,none⟩=some (.int .u8 p2):=fun cs=>by rw[bB _ _ _ _ (by show pb≠_;omega)];exact pc2
   have pq3:∀cs,(W1.drew.setRow w.heap.size cs).cell? ⟨pb,3,none⟩=some (.int .u8 p3):=fun cs=>by rw[bB _ _ _ _ (by show pb≠_;omega)];exact pc3
   clear hgW hgmW hgzW hbW
   go_wp2_with fail
   refine wRl 33 (fun w'=>∃cs,w'=W1.drew.setRow w.heap.size cs)
    [(.held,[0,1,2,3,4,5,6,7]),(.exact,[8,9,10,11,12,13,14,15,16,17,18,19,20,21,22,23,24,25]),(.only,[26]),(.held,[27,28,29,30,31,32]),(.tail,[33]),(.held,[34]),(.tail,[35]),(.held,[36]),(.tail,[37]),(.held,[38]),(.tail,[39])] wG (by kernel_rfl)
    S0.out ?_
   simp only[iX,oS]
   repeat(go_big_quiet_step (fail))
   refine wqN ?_
   repeat(go_big_quiet_step (fail))
   refine wqN ?_
   go_wp2_with fail
   refine(NM _ _ _ _ _ _ _ w0 w1 w2 w3 wx wy).mono ?_
   rintro e WX ⟨rfl,rfl⟩
   go_wp2_with fail
   refine⟨rfl,?_⟩
   repeat(go_big_quiet_step (fail))
   refine wqN ?_
   go_wp2_with fail
   refine⟨iK S0.out,?_⟩
   repeat(go_big_quiet_step (fail))
   refine wqN ?_
   go_wp2_with fail
   refine⟨iK (iK S0.out),?_⟩
   repeat(go_big_quiet_step (fail))
   refine wqN ?_
   go_wp2_with fail
   refine⟨iK (iK (iK S0.out)),?_⟩
   repeat(go_big_quiet_step (fail))
   refine wqN ?_
   go_wp2_with fail
   refine⟨iK (iK (iK (iK S0.out))),dV ?_⟩
   go_wp2
   go_roundw
   case rel=>
    have hw1:=setCell_eq_setRow W1 w.heap.size p0 (Iv .u32 L) 177 (0,0) (.int .u32 (gA x0 x1 x2 x3 x y)) HG.out
    refine⟨j+1,by omega,by go_num,?_,?_,?_,?_⟩
    ·rw[HL.out,HM.out,hw1,aK,aK,aK,bZ,bZ,bZ,bZ]
     exact setRow_heap _ _ _ _ _ _ HG.out
    ·rw[hw1,aK,aK,aK]
     exact(cG _ _ _ _ (by omega)).trans HGM.out
    ·rw[hw1,aK,aK,aK]
     exact(cG _ _ _ _ (by omega)).trans HGZ.out
    ·rw[hw1,aK,aK,aK]
     exact bDr (aO HBL.out _ (nQ _) _) 1
   case measure=>simp[intOf];omega
  ·obtain rfl:j=8:=by omega
   have hL:Bf.length=16:=by rw[←HBF.out _ rfl,kW,hl]
   rw[HBF.out _ rfl]at hg
   have hi:Hid ((prog.info? 177).map (·.size)=some (Iv .u32 Bf).size):=by show _=_;rw[aD,hL];exact AU
   have hz:Hid ((Iv .u32 (rQ 16 0)).size=(Iv .u32 Bf).size):=by show _=_;rw[aD,aD,hL,rJ]
   have HG:Hid _:=hg
   have HGZ:Hid _:=hgz
   have HBL:Hid _:=hbel
   clear hg hgm hgz hbel
   go_wp2_with(first|refine wpLr rfl 177 _ rfl w.heap.size rfl _ (Iv .u32 Bf) _ _ HG.out underlying177 rfl hi.out ?_ |refine wpList_store_row rfl 177 _ _ rfl (w.heap.size+1+1) (Iv .u32 Bf) rfl rfl _ _ HGZ.out hi.out hz.out (aG _ _) ?_)
   refine pW (cs:=Iv .u32 Bf) results110 ?_ (setRow_heap _ _ _ _ _ _ HGZ.out) underlying177 hi.out ?_
   ·rfl
   ·exact⟨rfl,aO HBL.out _ (by omega) _⟩
end Go.Proofs.YtmjccemdldidaaaGreatDoor
