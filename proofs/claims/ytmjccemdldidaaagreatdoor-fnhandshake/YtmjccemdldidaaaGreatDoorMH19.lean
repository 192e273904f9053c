import Derived.Test.YtmjccemdldidaaaGreatDoorMH04
namespace Go.Proofs.YtmjccemdldidaaaGreatDoor
open Go.RowKit
open Go.Proofs.Tryz
open Go renaming rounds_succ → rdS, wpList_load_row → wpLr, wpQuiet_nil → wqN
open Go.World renaming size_alloc → wU
open List renaming drop_succ_cons → dJ, drop_zero → dY, take_succ_cons → tU, take_zero → tJ
open Nat renaming le_refl → nQ
set_option linter.unusedVariables false
set_option maxHeartbeats 20000000
theorem oF:(prog.info? 221).map (·.size)=some 5:=by kernel_rfl
theorem eP:prog.follows .mixedOrders=true:=by kernel_rfl
theorem D3 (a0 a1 a2 a3 a4:Int) (w:World) (h0:0≤a0) (g0:a0≤576460752303423488) (h1:0≤a1) (g1:a1≤576460752303423488) (h2:0≤a2) (g2:a2≤576460752303423488) (h3:0≤a3) (g3:a3≤576460752303423488) (h4:0≤a4) (g4:a4≤576460752303423488):
 Calls prog 138 #[.agg #[.int .u64 a0,.int .u64 a1,.int .u64 a2,.int .u64 a3,.int .u64 a4]] w fun e w'=>∃r0 r1 r2 r3 r4,e=.returned (.agg #[.int .u64 r0,.int .u64 r1,.int .u64 r2,.int .u64 r3,.int .u64 r4])∧Car a0 a1 a2 a3 a4 r0 r1 r2 r3 r4∧Below w.heap.size w w':=by
 go_enter func138,ntmps138
 go_wp2
 refine wp_loop_rounds 6 ?_
 iterate 6 (rw[rdS];go_wp2)
 refine bodyPost_ret (v:=.agg #[.int .u64 _,.int .u64 _,.int .u64 _,.int .u64 _,.int .u64 _]) (by simp[results,results138,go_sem]) rfl ⟨_,_,_,_,_,rfl,agS a0 a1 a2 a3 a4 h0 g0 h1 g1 h2 g2 h3 g3 h4 g4,?_⟩
 exact((Below.refl _ _).alloc (by simp) _).alloc (by simp) _
theorem UG (a0 a1 a2 a3 a4:Int) (h0:0≤a0) (g0:a0<67108864) (h1:0≤a1) (g1:a1<67108864) (h2:0≤a2) (g2:a2<67108864) (h3:0≤a3) (g3:a3<67108864) (h4:0≤a4) (g4:a4<67108864):
 bits .or .u64 (bits .or .u64 a0 (IntKind.u64.wrap (a1*67108864))) (IntKind.u64.wrap (a2*4503599627370496))=a0+67108864*a1+4503599627370496*(a2%4096)∧
 bits .or .u64 (bits .or .u64 (a2 / 4096) (IntKind.u64.wrap (a3*16384))) (IntKind.u64.wrap (a4*1099511627776))=a2 / 4096+16384*a3+1099511627776*(a4%16777216):=by
 have e1:IntKind.u64.wrap (a1*67108864)=a1*67108864:=vW _ (by omega) (by omega)
 have e2:IntKind.u64.wrap (a2*4503599627370496)=(a2%4096)*4503599627370496:=by rw[IntKind.wrap_u64];omega
 have e3:IntKind.u64.wrap (a3*16384)=a3*16384:=vW _ (by omega) (by omega)
 have e4:IntKind.u64.wrap (a4*1099511627776)=(a4%16777216)*1099511627776:=by rw[IntKind.wrap_u64];omega
 rw[e1,e2,e3,e4]
 rw[BG 26 a0 (a1*67108864) (by decide) (by omega) (by omega) (by omega) (by omega) (by omega)]
 rw[BG 52 (a0+a1*67108864) ((a2%4096)*4503599627370496) (by decide) (by omega) (by omega) (by omega) (by omega) (by omega)]
 rw[BG 14 (a2 / 4096) (a3*16384) (by decide) (by omega) (by omega) (by omega) (by omega) (by omega)]
 rw[BG 40 (a2 / 4096+a3*16384) ((a4%16777216)*1099511627776) (by decide) (by omega) (by omega) (by omega) (by omega) (by omega)]
 omega
theorem UF (a0 a1 a2 a3 a4:Int) (w:World) (h0:0≤a0) (g0:a0<67108864) (h1:0≤a1) (g1:a1<67108864) (h2:0≤a2) (g2:a2<67108864) (h3:0≤a3) (g3:a3<67108864) (h4:0≤a4) (g4:a4<67108864):
 Calls prog 134 #[.agg #[.int .u64 a0,.int .u64 a1,.int .u64 a2,.int .u64 a3,.int .u64 a4]] w fun e w'=>
  e=.returned (.tuple #[.int .u64 (a0+67108864*a1+4503599627370496*(a2%4096)),.int .u64 (a2 / 4096+16384*a3+1099511627776*(a4%16777216))])∧Below w.heap.size w w':=by
 have H:=UG a0 a1 a2 a3 a4 h0 g0 h1 g1 h2 g2 h3 g3 h4 g4
 have H1:Hid (_∧_):=H
 clear H h0 g0 h1 g1 h2 g2 h3 g3 h4 g4
 go_enter func134,ntmps134
 go_wp2
 go_quiet (fail)
 go_wp2
 go_ret2
 obtain⟨H2,H3⟩:=H1.out
 rw[H2,H3]
 exact⟨rfl,bDr ((Below.refl _ _).alloc (by simp) _) _⟩
theorem aaD (w0 w1 w2 w3 w4:Int) (h0:0≤w0) (g0:w0<4294967296) (h1:0≤w1) (g1:w1<4294967296) (h2:0≤w2) (g2:w2<4294967296) (h3:0≤w3) (g3:w3<4294967296) (h4:0≤w4) (g4:w4≤1):
 bits .and .u64 w0 67108863=w0%67108864∧
 bits .and .u64 (bits .or .u64 (w0 / 67108864) (w1*64)) 67108863=w0 / 67108864+64*(w1%1048576)∧
 bits .and .u64 (bits .or .u64 (w1 / 1048576) (w2*4096)) 67108863=w1 / 1048576+4096*(w2%16384)∧
 bits .and .u64 (bits .or .u64 (w2 / 16384) (w3*262144)) 67108863=w2 / 16384+262144*(w3%256)∧
 bits .or .u64 (w3 / 256) (w4*16777216)=w3 / 256+16777216*w4:=by
 rw[mS w0 h0 (by omega)]
 rw[BG 6 (w0 / 67108864) (w1*64) (by decide) (by omega) (by omega) (by omega) (by omega) (by omega),mS _ (by omega) (by omega)]
 rw[BG 12 (w1 / 1048576) (w2*4096) (by decide) (by omega) (by omega) (by omega) (by omega) (by omega),mS _ (by omega) (by omega)]
 rw[BG 18 (w2 / 16384) (w3*262144) (by decide) (by omega) (by omega) (by omega) (by omega) (by omega),mS _ (by omega) (by omega)]
 rw[BG 24 (w3 / 256) (w4*16777216) (by decide) (by omega) (by omega) (by omega) (by omega) (by omega)]
 omega
theorem aaC (w0 w1 w2 w3 w4:Int) (w:World) (h0:0≤w0) (g0:w0<4294967296) (h1:0≤w1) (g1:w1<4294967296) (h2:0≤w2) (g2:w2<4294967296) (h3:0≤w3) (g3:w3<4294967296) (h4:0≤w4) (g4:w4≤1):
 Calls prog 137 #[.agg #[.int .u32 w0,.int .u32 w1,.int .u32 w2,.int .u32 w3,.int .u32 w4]] w fun e w'=>
  e=.returned (.agg #[.int .u64 (w0%67108864),.int .u64 (w0 / 67108864+64*(w1%1048576)),.int .u64 (w1 / 1048576+4096*(w2%16384)),.int .u64 (w2 / 16384+262144*(w3%256)),.int .u64 (w3 / 256+16777216*w4)])∧Below w.heap.size w w':=by
 have H:=aaD w0 w1 w2 w3 w4 h0 g0 h1 g1 h2 g2 h3 g3 h4 g4
 have H1:Hid (_∧_∧_∧_∧_):=H
 clear H
 go_enter func137,ntmps137
 go_wp2
 obtain⟨H2,H3,H4,H5,H6⟩:=H1.out
 rw[H2,H3,H4,H5,H6]
 refine bodyPost_ret (v:=.agg #[.int .u64 _,.int .u64 _,.int .u64 _,.int .u64 _,.int .u64 _]) (by simp[results,results137,go_sem]) rfl ⟨rfl,?_⟩
 exact((Below.refl _ _).alloc (by simp) _).alloc (by simp) _
theorem MA (w0 w1 w2 w3 w4:Int) (w:World) (h0:0≤w0) (g0:w0<4294967296) (h1:0≤w1) (g1:w1<4294967296) (h2:0≤w2) (g2:w2<4294967296) (h3:0≤w3) (g3:w3<4294967296) (h4:0≤w4) (g4:w4≤1):
 Calls prog 137 #[.agg #[.int .u32 w0,.int .u32 w1,.int .u32 w2,.int .u32 w3,.int .u32 w4]] w fun e w'=>
  ∃r0 r1 r2 r3 r4,e=.returned (.agg #[.int .u64 r0,.int .u64 r1,.int .u64 r2,.int .u64 r3,.int .u64 r4])∧pR r0 r1 r2 r3 r4∧
   V5 r0 r1 r2 r3 r4=w0+4294967296*w1+18446744073709551616*w2+79228162514264337593543950336*w3+340282366920938463463374607431768211456*w4∧Below w.heap.size w w':=by
 refine(aaC w0 w1 w2 w3 w4 w h0 g0 h1 g1 h2 g2 h3 g3 h4 g4).mono ?_
 rintro e w' ⟨rfl,hb⟩
 obtain⟨hv,hl⟩:=Q6 w0 w1 w2 w3 w4 h0 g0 h1 g1 h2 g2 h3 g3 h4 g4
 exact⟨_,_,_,_,_,rfl,hl,hv,hb⟩
def aU:LI→Int
 | []=>0
 | x::r=>x+256*aU r
def cY (zs:LI):LI:=([aF zs 0,aF zs 1,aF zs 2,aF zs 3,aF zs 4]).set (zs.length / 4) (bits .or .u32 (aF zs (zs.length / 4)) (2^(8*(zs.length%4))))
def iA (zs:LI):Prop:=
 ∃v0 v1 v2 v3 v4:Int,cY zs=[v0,v1,v2,v3,v4]∧0≤v0∧v0<4294967296∧0≤v1∧v1<4294967296∧0≤v2∧v2<4294967296∧0≤v3∧v3<4294967296∧0≤v4∧v4≤1∧
  v0+4294967296*v1+18446744073709551616*v2+79228162514264337593543950336*v3+340282366920938463463374607431768211456*v4=aU zs+256^zs.length
theorem ahU (z0:Int) (h0:0≤z0∧z0≤255):iA [z0]:=by
 have e:bits .or .u32 (z0) 256=(z0)+256:=rW 8 _ _ (by decide) (by omega) (by decide) (by omega) (by omega) (by omega)
 refine⟨(z0)+256,0,0,0,0,?_,?_⟩
 ·simp[cY,aF]
  rw[←e]
 ·simp only[aU,List.length_cons,List.length_nil]
  omega
theorem ahV (z0 z1:Int) (h0:0≤z0∧z0≤255) (h1:0≤z1∧z1≤255):iA [z0,z1]:=by
 have e:bits .or .u32 (z0+256*z1) 65536=(z0+256*z1)+65536:=rW 16 _ _ (by decide) (by omega) (by decide) (by omega) (by omega) (by omega)
 refine⟨(z0+256*z1)+65536,0,0,0,0,?_,?_⟩
 ·simp[cY,aF]
  rw[←e]
 ·simp only[aU,List.length_cons,List.length_nil]
  omega
theorem ahW (z0 z1 z2:Int) (h0:0≤z0∧z0≤255) (h1:0≤z1∧z1≤255) (h2:0≤z2∧z2≤255):iA [z0,z1,z2]:=by
 have e:bits .or .u32 (z0+256*z1+65536*z2) 16777216=(z0+256*z1+65536*z2)+16777216:=rW 24 _ _ (by decide) (by omega) (by decide) (by omega) (by omega) (by omega)
 refine⟨(z0+256*z1+65536*z2)+16777216,0,0,0,0,?_,?_⟩
 ·simp[cY,aF]
  rw[←e]
 ·simp only[aU,List.length_cons,List.length_nil]
  omega
theorem ahX (z0 z1 z2 z3:Int) (h0:0≤z0∧z0≤255) (h1:0≤z1∧z1≤255) (h2:0≤z2∧z2≤255) (h3:0≤z3∧z3≤255):iA [z0,z1,z2,z3]:=by
 have e:bits .or .u32 (0) 1=(0)+1:=rW 0 _ _ (by decide) (by omega) (by decide) (by omega) (by omega) (by omega)
 refine⟨z0+256*z1+65536*z2+16777216*z3,1,0,0,0,?_,?_⟩
 ·simp[cY,aF]
  exact e.trans (by omega)
 ·simp only[aU,List.length_cons,List.length_nil]
  omega
theorem ahY (z0 z1 z2 z3 z4:Int) (h0:0≤z0∧z0≤255) (h1:0≤z1∧z1≤255) (h2:0≤z2∧z2≤255) (h3:0≤z3∧z3≤255) (h4:0≤z4∧z4≤255):iA [z0,z1,z2,z3,z4]:=by
 have e:bits .or .u32 (z4) 256=(z4)+256:=rW 8 _ _ (by decide) (by omega) (by decide) (by omega) (by omega) (by omega)
 refine⟨z0+256*z1+65536*z2+16777216*z3,(z4)+256,0,0,0,?_,?_⟩
 ·simp[cY,aF]
  rw[←e]
 ·simp only[aU,List.length_cons,List.length_nil]
  omega
theorem ahZ (z0 z1 z2 z3 z4 z5:Int) (h0:0≤z0∧z0≤255) (h1:0≤z1∧z1≤255) (h2:0≤z2∧z2≤255) (h3:0≤z3∧z3≤255) (h4:0≤z4∧z4≤255) (h5:0≤z5∧z5≤255):iA [z0,z1,z2,z3,z4,z5]:=by
 have e:bits .or .u32 (z4+256*z5) 65536=(z4+256*z5)+65536:=rW 16 _ _ (by decide) (by omega) (by decide) (by omega) (by omega) (by omega)
 refine⟨z0+256*z1+65536*z2+16777216*z3,(z4+256*z5)+65536,0,0,0,?_,?_⟩
 ·simp[cY,aF]
  rw[←e]
 ·simp only[aU,List.length_cons,List.length_nil]
  omega
theorem ah0 (z0 z1 z2 z3 z4 z5 z6:Int) (h0:0≤z0∧z0≤255) (h1:0≤z1∧z1≤255) (h2:0≤z2∧z2≤255) (h3:0≤z3∧z3≤255) (h4:0≤z4∧z4≤255) (h5:0≤z5∧z5≤255) (h6:0≤z6∧z6≤255):iA [z0,z1,z2,z3,z4,z5,z6]:=by
 have e:bits .or .u32 (z4+256*z5+65536*z6) 16777216=(z4+256*z5+65536*z6)+16777216:=rW 24 _ _ (by decide) (by omega) (by decide) (by omega) (by omega) (by omega)
 refine⟨z0+256*z1+65536*z2+16777216*z3,(z4+256*z5+65536*z6)+16777216,0,0,0,?_,?_⟩
 ·simp[cY,aF]
  rw[←e]
 ·simp only[aU,List.length_cons,List.length_nil]
  omega
theorem ah1 (z0 z1 z2 z3 z4 z5 z6 z7:Int) (h0:0≤z0∧z0≤255) (h1:0≤z1∧z1≤255) (h2:0≤z2∧z2≤255) (h3:0≤z3∧z3≤255) (h4:0≤z4∧z4≤255) (h5:0≤z5∧z5≤255) (h6:0≤z6∧z6≤255) (h7:0≤z7∧z7≤255):iA [z0,z1,z2,z3,z4,z5,z6,z7]:=by
 have e:bits .or .u32 (0) 1=(0)+1:=rW 0 _ _ (by decide) (by omega) (by decide) (by omega) (by omega) (by omega)
 refine⟨z0+256*z1+65536*z2+16777216*z3,z4+256*z5+65536*z6+16777216*z7,1,0,0,?_,?_⟩
 ·simp[cY,aF]
  exact e.trans (by omega)
 ·simp only[aU,List.length_cons,List.length_nil]
  omega
theorem ah2 (z0 z1 z2 z3 z4 z5 z6 z7 z8:Int) (h0:0≤z0∧z0≤255) (h1:0≤z1∧z1≤255) (h2:0≤z2∧z2≤255) (h3:0≤z3∧z3≤255) (h4:0≤z4∧z4≤255) (h5:0≤z5∧z5≤255) (h6:0≤z6∧z6≤255) (h7:0≤z7∧z7≤255) (h8:0≤z8∧z8≤255):iA [z0,z1,z2,z3,z4,z5,z6,z7,z8]:=by
 have e:bits .or .u32 (z8) 256=(z8)+256:=rW 8 _ _ (by decide) (by omega) (by decide) (by omega) (by omega) (by omega)
 refine⟨z0+256*z1+65536*z2+16777216*z3,z4+256*z5+65536*z6+16777216*z7,(z8)+256,0,0,?_,?_⟩
 ·simp[cY,aF]
  rw[←e]
 ·simp only[aU,List.length_cons,List.length_nil]
  omega
theorem ae5 (z0 z1 z2 z3 z4 z5 z6 z7 z8 z9:Int) (h0:0≤z0∧z0≤255) (h1:0≤z1∧z1≤255) (h2:0≤z2∧z2≤255) (h3:0≤z3∧z3≤255) (h4:0≤z4∧z4≤255) (h5:0≤z5∧z5≤255) (h6:0≤z6∧z6≤255) (h7:0≤z7∧z7≤255) (h8:0≤z8∧z8≤255) (h9:0≤z9∧z9≤255):iA [z0,z1,z2,z3,z4,z5,z6,z7,z8,z9]:=by
 have e:bits .or .u32 (z8+256*z9) 65536=(z8+256*z9)+65536:=rW 16 _ _ (by decide) (by omega) (by decide) (by omega) (by omega) (by omega)
 refine⟨z0+256*z1+65536*z2+16777216*z3,z4+256*z5+65536*z6+16777216*z7,(z8+256*z9)+65536,0,0,?_,?_⟩
 ·simp[cY,aF]
  rw[←e]
 ·simp only[aU,List.length_cons,List.length_nil]
  omega
theorem ae6 (z0 z1 z2 z3 z4 z5 z6 z7 z8 z9 z10:Int) (h0:0≤z0∧z0≤255) (h1:0≤z1∧z1≤255) (h2:0≤z2∧z2≤255) (h3:0≤z3∧z3≤255) (h4:0≤z4∧z4≤255) (h5:0≤z5∧z5≤255) (h6:0≤z6∧z6≤255) (h7:0≤z7∧z7≤255) (h8:0≤z8∧z8≤255) (h9:0≤z9∧z9≤255) (h10:0≤z10∧z10≤255):iA [z0,z1,z2,z3,z4,z5,z6,z7,z8,z9,z10]:=by
 have e:bits .or .u32 (z8+256*z9+65536*z10) 16777216=(z8+256*z9+65536*z10)+16777216:=rW 24 _ _ (by decide) (by omega) (by decide) (by omega) (by omega) (by omega)
 refine⟨z0+256*z1+65536*z2+16777216*z3,z4+256*z5+65536*z6+16777216*z7,(z8+256*z9+65536*z10)+16777216,0,0,?_,?_⟩
 ·simp[cY,aF]
  rw[←e]
 ·simp only[aU,List.length_cons,List.length_nil]
  omega
theorem ae7 (z0 z1 z2 z3 z4 z5 z6 z7 z8 z9 z10 z11:Int) (h0:0≤z0∧z0≤255) (h1:0≤z1∧z1≤255) (h2:0≤z2∧z2≤255) (h3:0≤z3∧z3≤255) (h4:0≤z4∧z4≤255) (h5:0≤z5∧z5≤255) (h6:0≤z6∧z6≤255) (h7:0≤z7∧z7≤255) (h8:0≤z8∧z8≤255) (h9:0≤z9∧z9≤255) (h10:0≤z10∧z10≤255) (h11:0≤z11∧z11≤255):iA [z0,z1,z2,z3,z4,z5,z6,z7,z8,z9,z10,z11]:=by
 have e:bits .or .u32 (0) 1=(0)+1:=rW 0 _ _ (by decide) (by omega) (by decide) (by omega) (by omega) (by omega)
 refine⟨z0+256*z1+65536*z2+16777216*z3,z4+256*z5+65536*z6+16777216*z7,z8+256*z9+65536*z10+16777216*z11,1,0,?_,?_⟩
 ·simp[cY,aF]
  exact e.trans (by omega)
 ·simp only[aU,List.length_cons,List.length_nil]
  omega
theorem ae8 (z0 z1 z2 z3 z4 z5 z6 z7 z8 z9 z10 z11 z12:Int) (h0:0≤z0∧z0≤255) (h1:0≤z1∧z1≤255) (h2:0≤z2∧z2≤255) (h3:0≤z3∧z3≤255) (h4:0≤z4∧z4≤255) (h5:0≤z5∧z5≤255) (h6:0≤z6∧z6≤255) (h7:0≤z7∧z7≤255) (h8:0≤z8∧z8≤255) (h9:0≤z9∧z9≤255) (h10:0≤z10∧z10≤255) (h11:0≤z11∧z11≤255) (h12:0≤z12∧z12≤255):iA [z0,z1,z2,z3,z4,z5,z6,z7,z8,z9,z10,z11,z12]:=by
 have e:bits .or .u32 (z12) 256=(z12)+256:=rW 8 _ _ (by decide) (by omega) (by decide) (by omega) (by omega) (by omega)
 refine⟨z0+256*z1+65536*z2+16777216*z3,z4+256*z5+65536*z6+16777216*z7,z8+256*z9+65536*z10+16777216*z11,(z12)+256,0,?_,?_⟩
 ·simp[cY,aF]
  rw[←e]
 ·simp only[aU,List.length_cons,List.length_nil]
  omega
theorem ae9 (z0 z1 z2 z3 z4 z5 z6 z7 z8 z9 z10 z11 z12 z13:Int) (h0:0≤z0∧z0≤255) (h1:0≤z1∧z1≤255) (h2:0≤z2∧z2≤255) (h3:0≤z3∧z3≤255) (h4:0≤z4∧z4≤255) (h5:0≤z5∧z5≤255) (h6:0≤z6∧z6≤255) (h7:0≤z7∧z7≤255) (h8:0≤z8∧z8≤255) (h9:0≤z9∧z9≤255) (h10:0≤z10∧z10≤255) (h11:0≤z11∧z11≤255) (h12:0≤z12∧z12≤255) (h13:0≤z13∧z13≤255):iA [z0,z1,z2,z3,z4,z5,z6,z7,z8,z9,z10,z11,z12,z13]:=by
 have e:bits .or .u32 (z12+256*z13) 65536=(z12+256*z13)+65536:=rW 16 _ _ (by decide) (by omega) (by decide) (by omega) (by omega) (by omega)
 refine⟨z0+256*z1+65536*z2+16777216*z3,z4+256*z5+65536*z6+16777216*z7,z8+256*z9+65536*z10+16777216*z11,(z12+256*z13)+65536,0,?_,?_⟩
 ·simp[cY,aF]
  rw[←e]
 ·simp only[aU,List.length_cons,List.length_nil]
  omega
theorem afA (z0 z1 z2 z3 z4 z5 z6 z7 z8 z9 z10 z11 z12 z13 z14:Int) (h0:0≤z0∧z0≤255) (h1:0≤z1∧z1≤255) (h2:0≤z2∧z2≤255) (h3:0≤z3∧z3≤255) (h4:0≤z4∧z4≤255) (h5:0≤z5∧z5≤255) (h6:0≤z6∧z6≤255) (h7:0≤z7∧z7≤255) (h8:0≤z8∧z8≤255) (h9:0≤z9∧z9≤255) (h10:0≤z10∧z10≤255) (h11:0≤z11∧z11≤255) (h12:0≤z12∧z12≤255) (h13:0≤z13∧z13≤255) (h14:0≤z14∧z14≤255):iA [z0,z1,z2,z3,z4,z5,z6,z7,z8,z9,z10,z11,z12,z13,z14]:=by
 have e:bits .or .u32 (z12+256*z13+65536*z14) 16777216=(z12+256*z13+65536*z14)+16777216:=rW 24 _ _ (by decide) (by omega) (by decide) (by omega) (by omega) (by omega)
 refine⟨z0+256*z1+65536*z2+16777216*z3,z4+256*z5+65536*z6+16777216*z7,z8+256*z9+65536*z10+16777216*z11,(z12+256*z13+65536*z14)+16777216,0,?_,?_⟩
 ·simp[cY,aF]
  rw[←e]
 ·simp only[aU,List.length_cons,List.length_nil]
  omega
theorem afB (z0 z1 z2 z3 z4 z5 z6 z7 z8 z9 z10 z11 z12 z13 z14 z15:Int) (h0:0≤z0∧z0≤255) (h1:0≤z1∧z1≤255) (h2:0≤z2∧z2≤255) (h3:0≤z3∧z3≤255) (h4:0≤z4∧z4≤255) (h5:0≤z5∧z5≤255) (h6:0≤z6∧z6≤255) (h7:0≤z7∧z7≤255) (h8:0≤z8∧z8≤255) (h9:0≤z9∧z9≤255) (h10:0≤z10∧z10≤255) (h11:0≤z11∧z11≤255) (h12:0≤z12∧z12≤255) (h13:0≤z13∧z13≤255) (h14:0≤z14∧z14≤255) (h15:0≤z15∧z15≤255):iA [z0,z1,z2,z3,z4,z5,z6,z7,z8,z9,z10,z11,z12,z13,z14,z15]:=by
 have e:bits .or .u32 (0) 1=(0)+1:=rW 0 _ _ (by decide) (by omega) (by decide) (by omega) (by omega) (by omega)
 refine⟨z0+256*z1+65536*z2+16777216*z3,z4+256*z5+65536*z6+16777216*z7,z8+256*z9+65536*z10+16777216*z11,z12+256*z13+65536*z14+16777216*z15,1,?_,?_⟩
 ·simp[cY,aF]
  exact e.trans (by omega)
 ·simp only[aU,List.length_cons,List.length_nil]
  omega
theorem ac3 (zs:LI) (h:aC zs) (h1:1≤zs.length) (h16:zs.length≤16):iA zs:=by
 have b0:=h 0
 have b1:=h 1
 have b2:=h 2
 have b3:=h 3
 have b4:=h 4
 have b5:=h 5
 have b6:=h 6
 have b7:=h 7
 have b8:=h 8
 have b9:=h 9
 have b10:=h 10
 have b11:=h 11
 have b12:=h 12
 have b13:=h 13
 have b14:=h 14
 have b15:=h 15
 match zs,h1,h16 with
 | [z0],_,_=>exact ahU z0 b0
 | [z0,z1],_,_=>exact ahV z0 z1 b0 b1
 | [z0,z1,z2],_,_=>exact ahW z0 z1 z2 b0 b1 b2
 | [z0,z1,z2,z3],_,_=>exact ahX z0 z1 z2 z3 b0 b1 b2 b3
 | [z0,z1,z2,z3,z4],_,_=>exact ahY z0 z1 z2 z3 z4 b0 b1 b2 b3 b4
 | [z0,z1,z2,z3,z4,z5],_,_=>exact ahZ z0 z1 z2 z3 z4 z5 b0 b1 b2 b3 b4 b5
 | [z0,z1,z2,z3,z4,z5,z6],_,_=>exact ah0 z0 z1 z2 z3 z4 z5 z6 b0 b1 b2 b3 b4 b5 b6
 | [z0,z1,z2,z3,z4,z5,z6,z7],_,_=>exact ah1 z0 z1 z2 z3 z4 z5 z6 z7 b0 b1 b2 b3 b4 b5 b6 b7
 | [z0,z1,z2,z3,z4,z5,z6,z7,z8],_,_=>exact ah2 z0 z1 z2 z3 z4 z5 z6 z7 z8 b0 b1 b2 b3 b4 b5 b6 b7 b8
 | [z0,z1,z2,z3,z4,z5,z6,z7,z8,z9],_,_=>exact ae5 z0 z1 z2 z3 z4 z5 z6 z7 z8 z9 b0 b1 b2 b3 b4 b5 b6 b7 b8 b9
 | [z0,z1,z2,z3,z4,z5,z6,z7,z8,z9,z10],_,_=>exact ae6 z0 z1 z2 z3 z4 z5 z6 z7 z8 z9 z10 b0 b1 b2 b3 b4 b5 b6 b7 b8 b9 b10
 | [z0,z1,z2,z3,z4,z5,z6,z7,z8,z9,z10,z11],_,_=>exact ae7 z0 z1 z2 z3 z4 z5 z6 z7 z8 z9 z10 z11 b0 b1 b2 b3 b4 b5 b6 b7 b8 b9 b10 b11
 | [z0,z1,z2,z3,z4,z5,z6,z7,z8,z9,z10,z11,z12],_,_=>exact ae8 z0 z1 z2 z3 z4 z5 z6 z7 z8 z9 z10 z11 z12 b0 b1 b2 b3 b4 b5 b6 b7 b8 b9 b10 b11 b12
 | [z0,z1,z2,z3,z4,z5,z6,z7,z8,z9,z10,z11,z12,z13],_,_=>exact ae9 z0 z1 z2 z3 z4 z5 z6 z7 z8 z9 z10 z11 z12 z13 b0 b1 b2 b3 b4 b5 b6 b7 b8 b9 b10 b11 b12 b13
 | [z0,z1,z2,z3,z4,z5,z6,z7,z8,z9,z10,z11,z12,z13,z14],_,_=>exact afA z0 z1 z2 z3 z4 z5 z6 z7 z8 z9 z10 z11 z12 z13 z14 b0 b1 b2 b3 b4 b5 b6 b7 b8 b9 b10 b11 b12 b13 b14
 | [z0,z1,z2,z3,z4,z5,z6,z7,z8,z9,z10,z11,z12,z13,z14,z15],_,_=>exact afB z0 z1 z2 z3 z4 z5 z6 z7 z8 z9 z10 z11 z12 z13 z14 z15 b0 b1 b2 b3 b4 b5 b6 b7 b8 b9 b10 b11 b12 b13 b14 b15
 | _::_::_::_::_::_::_::_::_::_::_::_::_::_::_::_::_::_,_,h16=>simp at h16
theorem iT (c d a b e:Int) (h:c*d=e):(c*a)*(d*b)=e*(a*b):=by rw[←h,Int.mul_assoc,Int.mul_left_comm a d b,←Int.mul_assoc]
theorem qF (d a b:Int):a*(d*b)=d*(a*b):=Int.mul_left_comm a d b
theorem oO (c a b:Int):(c*a)*b=c*(a*b):=Int.mul_assoc c a b
theorem V6 (a0 a1 a2 a3 a4 b0 b1 b2 b3 b4:Int):V5 a0 a1 a2 a3 a4*V5 b0 b1 b2 b3 b4=a0*b0+67108864*(a1*b0)+4503599627370496*(a2*b0)+302231454903657293676544*(a3*b0)+20282409603651670423947251286016*(a4*b0)+67108864*(a0*b1)+4503599627370496*(a1*b1)+302231454903657293676544*(a2*b1)+20282409603651670423947251286016*(a3*b1)+1361129467683753853853498429727072845824*(a4*b1)+4503599627370496*(a0*b2)+302231454903657293676544*(a1*b2)+20282409603651670423947251286016*(a2*b2)+1361129467683753853853498429727072845824*(a3*b2)+91343852333181432387730302044767688728495783936*(a4*b2)+302231454903657293676544*(a0*b3)+20282409603651670423947251286016*(a1*b3)+1361129467683753853853498429727072845824*(a2*b3)+91343852333181432387730302044767688728495783936*(a3*b3)+6129982163463555433433388108601236734474956488734408704*(a4*b3)+20282409603651670423947251286016*(a0*b4)+1361129467683753853853498429727072845824*(a1*b4)+91343852333181432387730302044767688728495783936*(a2*b4)+6129982163463555433433388108601236734474956488734408704*(a3*b4)+411376139330301510538742295639337626245683966408394965837152256*(a4*b4):=by
 have e01:(a0)*(67108864*b1)=67108864*(a0*b1):=qF 67108864 a0 b1
 have e02:(a0)*(4503599627370496*b2)=4503599627370496*(a0*b2):=qF 4503599627370496 a0 b2
 have e03:(a0)*(302231454903657293676544*b3)=302231454903657293676544*(a0*b3):=qF 302231454903657293676544 a0 b3
 have e04:(a0)*(20282409603651670423947251286016*b4)=20282409603651670423947251286016*(a0*b4):=qF 20282409603651670423947251286016 a0 b4
 have e10:(67108864*a1)*(b0)=67108864*(a1*b0):=oO 67108864 a1 b0
 have e11:(67108864*a1)*(67108864*b1)=4503599627370496*(a1*b1):=iT 67108864 67108864 a1 b1 4503599627370496 (by decide)
 have e12:(67108864*a1)*(4503599627370496*b2)=302231454903657293676544*(a1*b2):=iT 67108864 4503599627370496 a1 b2 302231454903657293676544 (by decide)
 have e13:(67108864*a1)*(302231454903657293676544*b3)=20282409603651670423947251286016*(a1*b3):=iT 67108864 302231454903657293676544 a1 b3 20282409603651670423947251286016 (by decide)
 have e14:(67108864*a1)*(20282409603651670423947251286016*b4)=1361129467683753853853498429727072845824*(a1*b4):=iT 67108864 20282409603651670423947251286016 a1 b4 1361129467683753853853498429727072845824 (by decide)
 have e20:(4503599627370496*a2)*(b0)=4503599627370496*(a2*b0):=oO 4503599627370496 a2 b0
 have e21:(4503599627370496*a2)*(67108864*b1)=302231454903657293676544*(a2*b1):=iT 4503599627370496 67108864 a2 b1 302231454903657293676544 (by decide)
 have e22:(4503599627370496*a2)*(4503599627370496*b2)=20282409603651670423947251286016*(a2*b2):=iT 4503599627370496 4503599627370496 a2 b2 20282409603651670423947251286016 (by decide)
 have e23:(4503599627370496*a2)*(302231454903657293676544*b3)=1361129467683753853853498429727072845824*(a2*b3):=iT 4503599627370496 302231454903657293676544 a2 b3 1361129467683753853853498429727072845824 (by decide)
 have e24:(4503599627370496*a2)*(20282409603651670423947251286016*b4)=91343852333181432387730302044767688728495783936*(a2*b4):=iT 4503599627370496 20282409603651670423947251286016 a2 b4 91343852333181432387730302044767688728495783936 (by decide)
 have e30:(302231454903657293676544*a3)*(b0)=302231454903657293676544*(a3*b0):=oO 302231454903657293676544 a3 b0
 have e31:(302231454903657293676544*a3)*(67108864*b1)=20282409603651670423947251286016*(a3*b1):=iT 302231454903657293676544 67108864 a3 b1 20282409603651670423947251286016 (by decide)
 have e32:(302231454903657293676544*a3)*(4503599627370496*b2)=1361129467683753853853498429727072845824*(a3*b2):=iT 302231454903657293676544 4503599627370496 a3 b2 1361129467683753853853498429727072845824 (by decide)
 have e33:(302231454903657293676544*a3)*(302231454903657293676544*b3)=91343852333181432387730302044767688728495783936*(a3*b3):=iT 302231454903657293676544 302231454903657293676544 a3 b3 91343852333181432387730302044767688728495783936 (by decide)
 have e34:(302231454903657293676544*a3)*(20282409603651670423947251286016*b4)=6129982163463555433433388108601236734474956488734408704*(a3*b4):=iT 302231454903657293676544 20282409603651670423947251286016 a3 b4 6129982163463555433433388108601236734474956488734408704 (by decide)
 have e40:(20282409603651670423947251286016*a4)*(b0)=20282409603651670423947251286016*(a4*b0):=oO 20282409603651670423947251286016 a4 b0
 have e41:(20282409603651670423947251286016*a4)*(67108864*b1)=1361129467683753853853498429727072845824*(a4*b1):=iT 20282409603651670423947251286016 67108864 a4 b1 1361129467683753853853498429727072845824 (by decide)
 have e42:(20282409603651670423947251286016*a4)*(4503599627370496*b2)=91343852333181432387730302044767688728495783936*(a4*b2):=iT 20282409603651670423947251286016 4503599627370496 a4 b2 91343852333181432387730302044767688728495783936 (by decide)
 have e43:(20282409603651670423947251286016*a4)*(302231454903657293676544*b3)=6129982163463555433433388108601236734474956488734408704*(a4*b3):=iT 20282409603651670423947251286016 302231454903657293676544 a4 b3 6129982163463555433433388108601236734474956488734408704 (by decide)
 have e44:(20282409603651670423947251286016*a4)*(20282409603651670423947251286016*b4)=411376139330301510538742295639337626245683966408394965837152256*(a4*b4):=iT 20282409603651670423947251286016 20282409603651670423947251286016 a4 b4 411376139330301510538742295639337626245683966408394965837152256 (by decide)
 unfold V5
 simp only[Int.add_mul,Int.mul_add,e01,e02,e03,e04,e10,e11,e12,e13,e14,e20,e21,e22,e23,e24,e30,e31,e32,e33,e34,e40,e41,e42,e43,e44]
 generalize a0*b0=p00
 generalize a0*b1=p01
 generalize a0*b2=p02
 generalize a0*b3=p03
 generalize a0*b4=p04
 generalize a1*b0=p10
 generalize a1*b1=p11
 generalize a1*b2=p12
 generalize a1*b3=p13
 generalize a1*b4=p14
 generalize a2*b0=p20
 generalize a2*b1=p21
 generalize a2*b2=p22
 generalize a2*b3=p23
 generalize a2*b4=p24
 generalize a3*b0=p30
 generalize a3*b1=p31
 generalize a3*b2=p32
 generalize a3*b3=p33
 generalize a3*b4=p34
 generalize a4*b0=p40
 generalize a4*b1=p41
 generalize a4*b2=p42
 generalize a4*b3=p43
 generalize a4*b4=p44
 omega
theorem SR (a0 a1 a2 a3 a4 b0 b1 b2 b3 b4:Int):
 V5 (a0*b0+5*a1*b4+5*a2*b3+5*a3*b2+5*a4*b1) (a0*b1+a1*b0+5*a2*b4+5*a3*b3+5*a4*b2) (a0*b2+a1*b1+a2*b0+5*a3*b4+5*a4*b3) (a0*b3+a1*b2+a2*b1+a3*b0+5*a4*b4) (a0*b4+a1*b3+a2*b2+a3*b1+a4*b0)=V5 a0 a1 a2 a3 a4*V5 b0 b1 b2 b3 b4 - gV*(a1*b4+a2*b3+67108864*(a2*b4)+a3*b2+67108864*(a3*b3)+4503599627370496*(a3*b4)+a4*b1+67108864*(a4*b2)+4503599627370496*(a4*b3)+302231454903657293676544*(a4*b4)):=by
 rw[V6]
 rw[Int.mul_assoc 5 a1 b4]
 rw[Int.mul_assoc 5 a2 b3]
 rw[Int.mul_assoc 5 a2 b4]
 rw[Int.mul_assoc 5 a3 b2]
 rw[Int.mul_assoc 5 a3 b3]
 rw[Int.mul_assoc 5 a3 b4]
 rw[Int.mul_assoc 5 a4 b1]
 rw[Int.mul_assoc 5 a4 b2]
 rw[Int.mul_assoc 5 a4 b3]
 rw[Int.mul_assoc 5 a4 b4]
 generalize a0*b0=p00
 generalize a0*b1=p01
 generalize a0*b2=p02
 generalize a0*b3=p03
 generalize a0*b4=p04
 generalize a1*b0=p10
 generalize a1*b1=p11
 generalize a1*b2=p12
 generalize a1*b3=p13
 generalize a1*b4=p14
 generalize a2*b0=p20
 generalize a2*b1=p21
 generalize a2*b2=p22
 generalize a2*b3=p23
 generalize a2*b4=p24
 generalize a3*b0=p30
 generalize a3*b1=p31
 generalize a3*b2=p32
 generalize a3*b3=p33
 generalize a3*b4=p34
 generalize a4*b0=p40
 generalize a4*b1=p41
 generalize a4*b2=p42
 generalize a4*b3=p43
 generalize a4*b4=p44
 unfold V5 gV
 omega
def iZ (r:Int) (zs:LI):Nat→Int
 | 0=>0
 | k+1=>(iZ r zs k+(aU ((zs.drop (16*k)).take 16)+256^((zs.drop (16*k)).take 16).length))*r%gV
theorem abM (A pc R qa q s:Int) (h:s=(A+gV*qa+pc)*R - gV*q):∃t,s=(A+pc)*R%gV+gV*t:=by
 refine⟨(A+pc)*R / gV+qa*R - q,?_⟩
 have e:(A+gV*qa+pc)*R=(A+pc)*R+gV*(qa*R):=by
  rw[show A+gV*qa+pc=(A+pc)+gV*qa by omega,Int.add_mul,Int.mul_assoc]
 rw[h,e]
 have:=Int.mul_ediv_add_emod ((A+pc)*R) gV
 rw[Int.mul_sub,Int.mul_add]
 omega
def mD (l:LI):Int:=aF l 0%268435456+4294967296*(4*(aF l 1 / 4%67108864))+18446744073709551616*(4*(aF l 2 / 4%67108864))+79228162514264337593543950336*(4*(aF l 3 / 4%67108864))
def afK (l:LI):Int:=aF (l.drop 16) 0+4294967296*aF (l.drop 16) 1+18446744073709551616*(aF (l.drop 16) 2+4294967296*aF (l.drop 16) 3)
def fY (N:Int):LI:=(List.range 16).map fun i=>N / 256^i%256
def gQ (key zs:LI):LI:=fY (iZ (mD key) zs ((zs.length+15) / 16)+afK key)
theorem acR (N:Int) (i:Nat) (hi:i<8):N%18446744073709551616 / 256^i%256=N / 256^i%256:=by
 match i,hi with
 | 0,_=>simp
 | 1,_=>simp;omega
 | 2,_=>simp;omega
 | 3,_=>simp;omega
 | 4,_=>simp;omega
 | 5,_=>simp;omega
 | 6,_=>simp;omega
 | 7,_=>simp;omega
theorem ZL (N:Int) (i:Nat) (hi:i<8):N / 18446744073709551616%18446744073709551616 / 256^i%256=N / 256^(8+i)%256:=by
 match i,hi with
 | 0,_=>simp
 | 1,_=>simp;omega
 | 2,_=>simp;omega
 | 3,_=>simp;omega
 | 4,_=>simp;omega
 | 5,_=>simp;omega
 | 6,_=>simp;omega
 | 7,_=>simp;omega
theorem afC (N lo hi:Int) (hlo:lo=N%18446744073709551616) (hhi:hi=N / 18446744073709551616%18446744073709551616) (z:LI) (hz:z.length=16):
 pF9 (pF9 z 0 (fun i=>lo / 256^i%256) 8) 8 (fun i=>hi / 256^i%256) 8=fY N:=by
 apply List.ext_getElem?
 intro i
 rw[cX _ _ _ _ _ (by rw[aS _ _ _ _ (by omega)];omega),cX _ _ _ _ _ (by omega)]
 simp only[fY,List.getElem?_map]
 by_cases h:i<16
 ·rw[List.getElem?_range h]
  by_cases h8:i<8
  ·rw[if_neg (by omega),if_pos (by omega),hlo,Nat.sub_zero,acR N i h8]
   rfl
  ·rw[if_pos (by omega),hhi,ZL N (i - 8) (by omega),show 8+(i - 8)=i by omega]
   rfl
 ·rw[if_neg (by omega),if_neg (by omega),List.getElem?_eq_none (by omega),List.getElem?_eq_none (by simp;omega)]
  rfl
theorem TG (r:Int) (zs:LI) (k:Nat):0≤iZ r zs k∧iZ r zs k<gV:=by
 cases k with
 | zero=>simp[iZ,gV]
 | succ k=>
   unfold iZ
   exact⟨Int.emod_nonneg _ (by decide),Int.emod_lt_of_pos _ (by decide)⟩
theorem abL {a b q:Int} (h:a=b+gV*q) (ha:0≤a) (ha2:a<gV) (hb:0≤b) (hb2:b<gV):a=b:=by
 unfold gV at*
 omega
theorem XM (x y:Int) (hx:0≤x) (hx2:x<4294967296) (hy:0≤y) (hy2:y<4294967296):bits .or .u64 x (y*4294967296)=x+4294967296*y:=by
 rw[BG 32 x (y*4294967296) (by decide) (by omega) (by omega) (by omega) (by omega) (by omega)]
 omega
theorem ag8:(prog.info? 229).map (·.size)=some 5:=by kernel_rfl
theorem TZ (l:LI) (hl:l.length=32) (hz:aC l) (w:World):
 Calls prog 129 #[.agg (Iv .u8 l)] w fun e w'=>∃r0 r1 r2 r3 r4,e=.returned (.agg #[.int .u64 r0,.int .u64 r1,.int .u64 r2,.int .u64 r3,.int .u64 r4])∧pR r0 r1 r2 r3 r4∧V5 r0 r1 r2 r3 r4=mD l∧Below w.heap.size w w':=by
 have hinfo22:(prog.info? 25).map (·.size)=some 32:=by kernel_rfl
 go_enter func129,ntmps129
 go_wp2
 refine wRh 2 eP (by kernel_rfl) ?_
 simp only[tU,tJ,dJ,dY]
 repeat(go_big_quiet_step (fail))
 refine wqN ?_
 go_wp2_with fail
 refine(jD 16 (w.heap.size+1+1) 0 5 5 229 [0,0,0,0,0] w.heap.size 0 32 (l.take 16) _ (by simp[hl]) ?_ (by decide) (by decide) (by omega) (dB hz 16) (by decide) (by decide) ?_ (by decide) (by decide)).mono ?_
 ·simp only[heap_drew,cI,wU]
  simp
  rfl
 ·intro i hi
  have:=dG .u8 l i (by omega)
  simp only[World.cell?_drew]
  rw[World.cell?_alloc_past _ _ _ (by simp<;>omega),World.cell?_alloc_past _ _ _ (by simp<;>omega),World.cell?_alloc_at _ _ _ _ rfl,Nat.zero_add,this,cM,if_pos hi]
  simp[show i<l.length by omega]
 rintro e w1 ⟨rfl,d,rfl⟩
 rw[wV,qK _ _ _ _ _ (by simp),show Iv .u32 (pF9 [0,0,0,0,0] 0 (aF (l.take 16)) (min (16 / 4+1) 5))=#[.int .u32 (aF (l.take 16) 0),.int .u32 (aF (l.take 16) 1),.int .u32 (aF (l.take 16) 2),.int .u32 (aF (l.take 16) 3),.int .u32 (aF (l.take 16) 4)]from rfl]
 rw[yB l 16 0 (by decide),yB l 16 1 (by decide),yB l 16 2 (by decide),yB l 16 3 (by decide),DV (l.take 16) 4 (by rw[List.length_take];omega)]
 obtain⟨h0,g0⟩:=mL hz 0
 obtain⟨h1,g1⟩:=mL hz 1
 obtain⟨h2,g2⟩:=mL hz 2
 obtain⟨h3,g3⟩:=mL hz 3
 have HR:Hid (mD l=aF l 0%268435456+4294967296*(4*(aF l 1 / 4%67108864))+18446744073709551616*(4*(aF l 2 / 4%67108864))+79228162514264337593543950336*(4*(aF l 3 / 4%67108864))):=rfl
 generalize aF l 0=x0 at*
 generalize aF l 1=x1 at*
 generalize aF l 2=x2 at*
 generalize aF l 3=x3 at*
 have e0:=ai0 x0 h0 g0
 have e1:=TH x1 h1 g1
 have e2:=TH x2 h2 g2
 have e3:=TH x3 h3 g3
 clear hz
 go_wp2
 refine wp_loop_rounds 4 ?_
 iterate 3 (rw[rdS];go_wp2)
 rw[rdS];go_wp2_with fail
 refine(MA _ _ _ _ _ _ (by omega) (by omega) (by omega) (by omega) (by omega) (by omega) (by omega) (by omega) (by omega) (by omega)).mono ?_
 rintro e w1 ⟨r0,r1,r2,r3,r4,rfl,ll,lv,hb⟩
 have hbW:Below (w.heap.size+1+1) ((w.alloc (.cells (Iv .u8 l) 25)).alloc (.cells #[.int .u64 0,.int .u64 0,.int .u64 0,.int .u64 0,.int .u64 0] 221)) w1:=
  (((((bDr ((Below.refl _ _).alloc (by simp) _) (1+d)).setCell (by simp) _).setCell (by simp) _).setCell (by simp) _).setCell (by simp) _).trans (hb.mono (by simp<;>omega))
 have hg:w1.heap[w.heap.size+1]? =some (.cells #[.int .u64 0,.int .u64 0,.int .u64 0,.int .u64 0,.int .u64 0] 221):=by
  rw[hbW.block _ (by omega)]
  simp only[cI,wU]
  simp
 have hbb:Below w.heap.size w w1:=(((Below.refl w.heap.size w).alloc (by simp) _).alloc (by simp) _).trans (hbW.mono (by omega))
 have hv:=lv.trans (show _=mD l by rw[HR.out];omega)
 clear hb hbW lv e0 e1 e2 e3
 have HV:Hid (V5 r0 r1 r2 r3 r4=mD l):=hv
 clear hv
 go_wp2_with(refine wpList_store_row rfl 221 _ _ rfl _ _ rfl rfl _ _ hg oF rfl (acW _ _ _ _ _ _) ?_)
 refine pW (cs:=#[.int .u64 r0,.int .u64 r1,.int .u64 r2,.int .u64 r3,.int .u64 r4]) results129 ?_ (setRow_heap _ _ _ _ _ _ hg) underlying221 oF ?_
 ·rfl
 ·exact⟨_,_,_,_,_,rfl,ll,HV.out,aO hbb _ (by omega) _⟩
theorem MM (zs:LI) (m:Nat) (hm:zs.length=m) (h1:1≤m) (h16:m≤16) (hz:aC zs) (b o cap:Nat) (w:World) (hb:b<w.heap.size) (hcap:m≤cap) (hcap2:cap≤9223372036854775807)
 (hc:∀i,i<m→w.cell? ⟨b,o+i,none⟩=some (.int .u8 (zs.getD i 0))):
 Calls prog 131 #[.slice (some ⟨b,o,none⟩) m cap] w fun e w'=>∃r0 r1 r2 r3 r4,e=.returned (.agg #[.int .u64 r0,.int .u64 r1,.int .u64 r2,.int .u64 r3,.int .u64 r4])∧pR r0 r1 r2 r3 r4∧V5 r0 r1 r2 r3 r4=aU zs+256^m∧Below w.heap.size w w':=by
 have hP:=ac3 zs hz (by omega) (by omega)
 go_enter func131,ntmps131
 go_wp2_with fail
 refine(jD m (w.heap.size+1) 0 5 5 229 [0,0,0,0,0] b o cap zs _ hm ?_ (by decide) (by decide) (by omega) hz (by omega) (by omega) ?_ hcap hcap2).mono ?_
 ·simp only[cI,wU]
  simp
  rfl
 ·intro i hi
  rw[World.cell?_alloc_past _ _ _ (by simp<;>omega),World.cell?_alloc_past _ _ _ hb]
  exact hc i hi
 rintro e w1 ⟨rfl,d,rfl⟩
 have hput:pF9 [0,0,0,0,0] 0 (aF zs) (min (m / 4+1) 5)=[aF zs 0,aF zs 1,aF zs 2,aF zs 3,aF zs 4]:=by
  apply List.ext_getElem?
  intro i
  rw[cX _ _ _ _ _ (by simp<;>omega)]
  by_cases hi:i<5
  ·by_cases hi2:i<m / 4+1
   ·rw[if_pos (by omega)]
    match i,hi with
    | 0,_=>rfl
    | 1,_=>rfl
    | 2,_=>rfl
    | 3,_=>rfl
    | 4,_=>rfl
   ·rw[if_neg (by omega)]
    have:=DV zs i (by omega)
    match i,hi,this with
    | 0,_,h=>simp[h]
    | 1,_,h=>simp[h]
    | 2,_,h=>simp[h]
    | 3,_,h=>simp[h]
    | 4,_,h=>simp[h]
  ·rw[if_neg (by omega),List.getElem?_eq_none (by simp<;>omega),List.getElem?_eq_none (by simp<;>omega)]
 rw[qK _ _ _ _ _ (by simp),hput]
 have hc4:(Iv .u32 [aF zs 0,aF zs 1,aF zs 2,aF zs 3,aF zs 4])[m / 4]? =some (.int .u32 (aF zs (m / 4))):=by
  have h5:m / 4<5:=by omega
  generalize m / 4=q at h5
  match q,h5 with
  | 0,_=>rfl
  | 1,_=>rfl
  | 2,_=>rfl
  | 3,_=>rfl
  | 4,_=>rfl
 have hpow:(2:Int)^(8*(m%4))%4294967296=2^(8*(m%4)):=by
  have h4:m%4<4:=by omega
  generalize m%4=q at h4
  match q,h4 with
  | 0,_=>rfl
  | 1,_=>rfl
  | 2,_=>rfl
  | 3,_=>rfl
 obtain⟨v0,v1,v2,v3,v4,hw,q0,s0,q1,s1,q2,s2,q3,s3,q4,s4,hval⟩:=hP
 have hgL:∀n,((((w.alloc (.cells #[.int .u64 0,.int .u64 0,.int .u64 0,.int .u64 0,.int .u64 0] 221)).alloc (.cells (Iv .u32 [aF zs 0,aF zs 1,aF zs 2,aF zs 3,aF zs 4]) 229)).drewN n).setCell ⟨w.heap.size+1,m / 4,none⟩ (.int .u32 (bits .or .u32 (aF zs (m / 4)) (2^(8*(m%4)))))).heap[w.heap.size+1]? =some (.cells #[.int .u32 v0,.int .u32 v1,.int .u32 v2,.int .u32 v3,.int .u32 v4] 229):=by
  intro n
  rw[heap_setCell_same (hg:=by rw[World.heap_drewN,cI,if_pos (by simp)]),bZ]
  have:([aF zs 0,aF zs 1,aF zs 2,aF zs 3,aF zs 4]).set (m / 4) (bits .or .u32 (aF zs (m / 4)) (2^(8*(m%4))))=[v0,v1,v2,v3,v4]:=by rw[←hw,cY,hm]
  rw[this]
  rfl
 have hbL:∀n v,Below (w.heap.size+1) (w.alloc (.cells #[.int .u64 0,.int .u64 0,.int .u64 0,.int .u64 0,.int .u64 0] 221)) ((((w.alloc (.cells #[.int .u64 0,.int .u64 0,.int .u64 0,.int .u64 0,.int .u64 0] 221)).alloc (.cells (Iv .u32 [aF zs 0,aF zs 1,aF zs 2,aF zs 3,aF zs 4]) 229)).drewN n).setCell ⟨w.heap.size+1,m / 4,none⟩ v):=fun n v=>
  (bDr ((Below.refl _ _).alloc (by simp) _) n).setCell (by simp) _
 have HB:Hid (∀n v,_):=hbL
 have HG:Hid (∀n,_):=hgL
 have HV:Hid (_=_):=hval
 have HM:Hid (zs.length=m):=hm
 clear hc hput hbL hgL hval hm hw
 go_wp2
 refine wRh 12 eP (by kernel_rfl) ?_
 simp only[tU,tJ,dJ,dY]
 repeat(go_big_quiet_step (fail))
 refine wqN ?_
 go_wp2_with(refine wpLr rfl 229 _ rfl _ rfl _ _ _ _ (HG.out _) underlying229 rfl ag8 ?_)
 refine(MA _ _ _ _ _ _ q0 s0 q1 s1 q2 s2 q3 s3 q4 s4).mono ?_
 rintro e w1 ⟨r0,r1,r2,r3,r4,rfl,ll,lv,hb1⟩
 have hbW:=(HB.out _ _).trans (hb1.mono (by simp<;>omega))
 have hg:w1.heap[w.heap.size]? =some (.cells #[.int .u64 0,.int .u64 0,.int .u64 0,.int .u64 0,.int .u64 0] 221):=by
  rw[hbW.block _ (by omega)]
  simp only[cI]
  simp
 have hbb:Below w.heap.size w w1:=((Below.refl w.heap.size w).alloc (by simp) _).trans (hbW.mono (by omega))
 have HV2:Hid (V5 r0 r1 r2 r3 r4=aU zs+256^m):=by rw[←HM.out];exact lv.trans HV.out
 clear hb1 hbW lv
 go_wp2_with(refine wpList_store_row rfl 221 _ _ rfl _ _ rfl rfl _ _ hg oF rfl (acW _ _ _ _ _ _) ?_)
 refine pW (cs:=#[.int .u64 r0,.int .u64 r1,.int .u64 r2,.int .u64 r3,.int .u64 r4]) results131 ?_ (setRow_heap _ _ _ _ _ _ hg) underlying221 oF ?_
 ·rfl
 ·exact⟨_,_,_,_,_,rfl,ll,HV2.out,aO hbb _ (by omega) _⟩
theorem WJ (a0 a1 a2 a3 a4 b0 b1 b2 b3 b4:Int) (w:World) (h0:0≤a0) (g0:a0≤134217728) (k0:0≤b0) (l0:b0≤134217728) (h1:0≤a1) (g1:a1≤134217728) (k1:0≤b1) (l1:b1≤134217728) (h2:0≤a2) (g2:a2≤134217728) (k2:0≤b2) (l2:b2≤134217728) (h3:0≤a3) (g3:a3≤134217728) (k3:0≤b3) (l3:b3≤134217728) (h4:0≤a4) (g4:a4≤134217728) (k4:0≤b4) (l4:b4≤134217728):
 Calls prog 130 #[.agg #[.int .u64 a0,.int .u64 a1,.int .u64 a2,.int .u64 a3,.int .u64 a4],.agg #[.int .u64 b0,.int .u64 b1,.int .u64 b2,.int .u64 b3,.int .u64 b4]] w fun e w'=>e=.returned (.agg #[.int .u64 (a0+b0),.int .u64 (a1+b1),.int .u64 (a2+b2),.int .u64 (a3+b3),.int .u64 (a4+b4)])∧Below w.heap.size w w':=by
 go_enter func130,ntmps130
 go_wp2
 refine wp_loop_rounds 6 ?_
 rw[rdS];go_wp2;refine wRh 8 eP (by kernel_rfl) ?_;simp only[tU,tJ,dJ,dY];(repeat(go_big_quiet_step (fail)));refine wqN ?_;go_wp2
 rw[rdS];go_wp2;refine wRh 8 eP (by kernel_rfl) ?_;simp only[tU,tJ,dJ,dY];(repeat(go_big_quiet_step (fail)));refine wqN ?_;go_wp2
 rw[rdS];go_wp2;refine wRh 8 eP (by kernel_rfl) ?_;simp only[tU,tJ,dJ,dY];(repeat(go_big_quiet_step (fail)));refine wqN ?_;go_wp2
 rw[rdS];go_wp2;refine wRh 8 eP (by kernel_rfl) ?_;simp only[tU,tJ,dJ,dY];(repeat(go_big_quiet_step (fail)));refine wqN ?_;go_wp2
 rw[rdS];go_wp2;refine wRh 8 eP (by kernel_rfl) ?_;simp only[tU,tJ,dJ,dY];(repeat(go_big_quiet_step (fail)));refine wqN ?_;go_wp2
 rw[rdS];go_wp2
 refine bodyPost_ret (v:=.agg #[.int .u64 _,.int .u64 _,.int .u64 _,.int .u64 _,.int .u64 _]) (by simp[results,results130,go_sem]) rfl ⟨rfl,?_⟩
 exact bDr ((((Below.refl _ _).alloc (by simp) _).alloc (by simp) _).alloc (by simp;omega) _) 5
theorem cU (a b:Int) (h:0≤a) (g:a≤268435456) (k:0≤b) (l:b≤67108863):0≤a*b∧a*b≤18014398509481984:=by
 refine⟨Int.mul_nonneg h k,?_⟩
 have h1:a*b≤268435456*b:=Int.mul_le_mul_of_nonneg_right g k
 omega
theorem dW (a b:Int) (h:0≤a) (g:a≤268435456) (k:0≤b) (l:b≤67108863):0≤5*a*b∧5*a*b≤90071992547409920:=by
 refine⟨Int.mul_nonneg (by omega) k,?_⟩
 have h1:5*a*b≤1342177280*b:=Int.mul_le_mul_of_nonneg_right (by omega) k
 omega
theorem abA (a0 a1 a2 a3 a4 b0 b1 b2 b3 b4:Int) (w:World) (h0:0≤a0) (g0:a0≤268435456) (k0:0≤b0) (l0:b0≤67108863) (h1:0≤a1) (g1:a1≤268435456) (k1:0≤b1) (l1:b1≤67108863) (h2:0≤a2) (g2:a2≤268435456) (k2:0≤b2) (l2:b2≤67108863) (h3:0≤a3) (g3:a3≤268435456) (k3:0≤b3) (l3:b3≤67108863) (h4:0≤a4) (g4:a4≤268435456) (k4:0≤b4) (l4:b4≤67108863):
 Calls prog 132 #[.agg #[.int .u64 a0,.int .u64 a1,.int .u64 a2,.int .u64 a3,.int .u64 a4],.agg #[.int .u64 b0,.int .u64 b1,.int .u64 b2,.int .u64 b3,.int .u64 b4]] w fun e w'=>∃r0 r1 r2 r3 r4,e=.returned (.agg #[.int .u64 r0,.int .u64 r1,.int .u64 r2,.int .u64 r3,.int .u64 r4])∧Car (a0*b0+5*a1*b4+5*a2*b3+5*a3*b2+5*a4*b1) (a0*b1+a1*b0+5*a2*b4+5*a3*b3+5*a4*b2) (a0*b2+a1*b1+a2*b0+5*a3*b4+5*a4*b3) (a0*b3+a1*b2+a2*b1+a3*b0+5*a4*b4) (a0*b4+a1*b3+a2*b2+a3*b1+a4*b0) r0 r1 r2 r3 r4∧Below w.heap.size w w':=by
 obtain⟨u00,v00⟩:=cU a0 b0 h0 g0 k0 l0
 obtain⟨u01,v01⟩:=cU a0 b1 h0 g0 k1 l1
 obtain⟨u02,v02⟩:=cU a0 b2 h0 g0 k2 l2
 obtain⟨u03,v03⟩:=cU a0 b3 h0 g0 k3 l3
 obtain⟨u04,v04⟩:=cU a0 b4 h0 g0 k4 l4
 obtain⟨u10,v10⟩:=cU a1 b0 h1 g1 k0 l0
 obtain⟨u11,v11⟩:=cU a1 b1 h1 g1 k1 l1
 obtain⟨u12,v12⟩:=cU a1 b2 h1 g1 k2 l2
 obtain⟨u13,v13⟩:=cU a1 b3 h1 g1 k3 l3
 obtain⟨u14,v14⟩:=dW a1 b4 h1 g1 k4 l4
 obtain⟨u20,v20⟩:=cU a2 b0 h2 g2 k0 l0
 obtain⟨u21,v21⟩:=cU a2 b1 h2 g2 k1 l1
 obtain⟨u22,v22⟩:=cU a2 b2 h2 g2 k2 l2
 obtain⟨u23,v23⟩:=dW a2 b3 h2 g2 k3 l3
 obtain⟨u24,v24⟩:=dW a2 b4 h2 g2 k4 l4
 obtain⟨u30,v30⟩:=cU a3 b0 h3 g3 k0 l0
 obtain⟨u31,v31⟩:=cU a3 b1 h3 g3 k1 l1
 obtain⟨u32,v32⟩:=dW a3 b2 h3 g3 k2 l2
 obtain⟨u33,v33⟩:=dW a3 b3 h3 g3 k3 l3
 obtain⟨u34,v34⟩:=dW a3 b4 h3 g3 k4 l4
 obtain⟨u40,v40⟩:=cU a4 b0 h4 g4 k0 l0
 obtain⟨u41,v41⟩:=dW a4 b1 h4 g4 k1 l1
 obtain⟨u42,v42⟩:=dW a4 b2 h4 g4 k2 l2
 obtain⟨u43,v43⟩:=dW a4 b3 h4 g4 k3 l3
 obtain⟨u44,v44⟩:=dW a4 b4 h4 g4 k4 l4
 go_enter func132,ntmps132
 go_wp2
 refine wp_loop_rounds 6 ?_
 rw[rdS];go_wp2;refine wp_loop_rounds 6 ?_
 rw[rdS];go_wp2;refine wRh 14 eP (by kernel_rfl) ?_;simp only[tU,tJ,dJ,dY];(repeat(go_big_quiet_step (fail)));refine wqN ?_;go_wp2
 rw[rdS];go_wp2;refine wRh 14 eP (by kernel_rfl) ?_;simp only[tU,tJ,dJ,dY];(repeat(go_big_quiet_step (fail)));refine wqN ?_;go_wp2
 rw[rdS];go_wp2;refine wRh 14 eP (by kernel_rfl) ?_;simp only[tU,tJ,dJ,dY];(repeat(go_big_quiet_step (fail)));refine wqN ?_;go_wp2
 rw[rdS];go_wp2;refine wRh 14 eP (by kernel_rfl) ?_;simp only[tU,tJ,dJ,dY];(repeat(go_big_quiet_step (fail)));refine wqN ?_;go_wp2
 rw[rdS];go_wp2;refine wRh 14 eP (by kernel_rfl) ?_;simp only[tU,tJ,dJ,dY];(repeat(go_big_quiet_step (fail)));refine wqN ?_;go_wp2
 rw[rdS];go_wp2
 rw[rdS];go_wp2;refine wp_loop_rounds 6 ?_
 rw[rdS];go_wp2;refine wRh 14 eP (by kernel_rfl) ?_;simp only[tU,tJ,dJ,dY];(repeat(go_big_quiet_step (fail)));refine wqN ?_;go_wp2
 rw[rdS];go_wp2;refine wRh 14 eP (by kernel_rfl) ?_;simp only[tU,tJ,dJ,dY];(repeat(go_big_quiet_step (fail)));refine wqN ?_;go_wp2
 rw[rdS];go_wp2;refine wRh 14 eP (by kernel_rfl) ?_;simp only[tU,tJ,dJ,dY];(repeat(go_big_quiet_step (fail)));refine wqN ?_;go_wp2
 rw[rdS];go_wp2;refine wRh 14 eP (by kernel_rfl) ?_;simp only[tU,tJ,dJ,dY];(repeat(go_big_quiet_step (fail)));refine wqN ?_;go_wp2
 rw[rdS];go_wp2;refine wRh 16 eP (by kernel_rfl) ?_;simp only[tU,tJ,dJ,dY];(repeat(go_big_quiet_step (fail)));refine wqN ?_;go_wp2
 rw[rdS];go_wp2
 rw[rdS];go_wp2;refine wp_loop_rounds 6 ?_
 rw[rdS];go_wp2;refine wRh 14 eP (by kernel_rfl) ?_;simp only[tU,tJ,dJ,dY];(repeat(go_big_quiet_step (fail)));refine wqN ?_;go_wp2
 rw[rdS];go_wp2;refine wRh 14 eP (by kernel_rfl) ?_;simp only[tU,tJ,dJ,dY];(repeat(go_big_quiet_step (fail)));refine wqN ?_;go_wp2
 rw[rdS];go_wp2;refine wRh 14 eP (by kernel_rfl) ?_;simp only[tU,tJ,dJ,dY];(repeat(go_big_quiet_step (fail)));refine wqN ?_;go_wp2
 rw[rdS];go_wp2;refine wRh 16 eP (by kernel_rfl) ?_;simp only[tU,tJ,dJ,dY];(repeat(go_big_quiet_step (fail)));refine wqN ?_;go_wp2
 rw[rdS];go_wp2;refine wRh 16 eP (by kernel_rfl) ?_;simp only[tU,tJ,dJ,dY];(repeat(go_big_quiet_step (fail)));refine wqN ?_;go_wp2
 rw[rdS];go_wp2
 rw[rdS];go_wp2;refine wp_loop_rounds 6 ?_
 rw[rdS];go_wp2;refine wRh 14 eP (by kernel_rfl) ?_;simp only[tU,tJ,dJ,dY];(repeat(go_big_quiet_step (fail)));refine wqN ?_;go_wp2
 rw[rdS];go_wp2;refine wRh 14 eP (by kernel_rfl) ?_;simp only[tU,tJ,dJ,dY];(repeat(go_big_quiet_step (fail)));refine wqN ?_;go_wp2
 rw[rdS];go_wp2;refine wRh 16 eP (by kernel_rfl) ?_;simp only[tU,tJ,dJ,dY];(repeat(go_big_quiet_step (fail)));refine wqN ?_;go_wp2
 rw[rdS];go_wp2;refine wRh 16 eP (by kernel_rfl) ?_;simp only[tU,tJ,dJ,dY];(repeat(go_big_quiet_step (fail)));refine wqN ?_;go_wp2
 rw[rdS];go_wp2;refine wRh 16 eP (by kernel_rfl) ?_;simp only[tU,tJ,dJ,dY];(repeat(go_big_quiet_step (fail)));refine wqN ?_;go_wp2
 rw[rdS];go_wp2
 rw[rdS];go_wp2;refine wp_loop_rounds 6 ?_
 rw[rdS];go_wp2;refine wRh 14 eP (by kernel_rfl) ?_;simp only[tU,tJ,dJ,dY];(repeat(go_big_quiet_step (fail)));refine wqN ?_;go_wp2
 rw[rdS];go_wp2;refine wRh 16 eP (by kernel_rfl) ?_;simp only[tU,tJ,dJ,dY];(repeat(go_big_quiet_step (fail)));refine wqN ?_;go_wp2
 rw[rdS];go_wp2;refine wRh 16 eP (by kernel_rfl) ?_;simp only[tU,tJ,dJ,dY];(repeat(go_big_quiet_step (fail)));refine wqN ?_;go_wp2
 rw[rdS];go_wp2;refine wRh 16 eP (by kernel_rfl) ?_;simp only[tU,tJ,dJ,dY];(repeat(go_big_quiet_step (fail)));refine wqN ?_;go_wp2
 rw[rdS];go_wp2;refine wRh 16 eP (by kernel_rfl) ?_;simp only[tU,tJ,dJ,dY];(repeat(go_big_quiet_step (fail)));refine wqN ?_;go_wp2
 rw[rdS];go_wp2
 rw[rdS];go_wp2_with fail
 refine(D3 _ _ _ _ _ _ (by omega) (by omega) (by omega) (by omega) (by omega) (by omega) (by omega) (by omega) (by omega) (by omega)).mono ?_
 rintro e w1 ⟨r0,r1,r2,r3,r4,rfl,hcar,hb⟩
 have hg:w1.heap[w.heap.size+1+1]? =some (.cells #[.int .u64 0,.int .u64 0,.int .u64 0,.int .u64 0,.int .u64 0] 221):=by
  rw[hb.block _ (by simp<;>omega)]
  simp only[heap_drew,cI,wU]
  simp
 have hbb:Below w.heap.size w w1:=(bDr (((((Below.refl w.heap.size w).alloc (by simp) _).alloc (by simp) _).alloc (by simp;omega) _).alloc (by simp;omega) _) 25).trans (hb.mono (by simp;omega))
 clear hb
 go_wp2_with(refine wpList_store_row rfl 221 _ _ rfl _ #[.int .u64 r0,.int .u64 r1,.int .u64 r2,.int .u64 r3,.int .u64 r4] rfl rfl _ _ hg oF rfl (acW _ _ _ _ _ _) ?_)
 refine pW (cs:=#[.int .u64 r0,.int .u64 r1,.int .u64 r2,.int .u64 r3,.int .u64 r4]) results132 ?_ (setRow_heap _ _ _ _ _ _ hg) underlying221 oF ?_
 ·rfl
 ·exact⟨r0,r1,r2,r3,r4,rfl,hcar,aO hbb _ (by omega) _⟩
theorem RZ (a0 a1 a2 a3 a4:Int) (w:World) (h0:0≤a0) (g0:a0≤67108863) (h1:0≤a1) (g1:a1≤67109888) (h2:0≤a2) (g2:a2≤67108863) (h3:0≤a3) (g3:a3≤67108863) (h4:0≤a4) (g4:a4≤67108863):
 Calls prog 133 #[.agg #[.int .u64 a0,.int .u64 a1,.int .u64 a2,.int .u64 a3,.int .u64 a4]] w fun e w'=>∃r0 r1 r2 r3 r4,e=.returned (.agg #[.int .u64 r0,.int .u64 r1,.int .u64 r2,.int .u64 r3,.int .u64 r4])∧pR r0 r1 r2 r3 r4∧(∃q,V5 r0 r1 r2 r3 r4=V5 a0 a1 a2 a3 a4 - gV*q)∧V5 r0 r1 r2 r3 r4<gV∧Below w.heap.size w w':=by
 go_enter func133,ntmps133
 go_wp2_with fail
 refine(D3 _ _ _ _ _ _ (by omega) (by omega) (by omega) (by omega) (by omega) (by omega) (by omega) (by omega) (by omega) (by omega)).mono ?_
 rintro e w1 ⟨r0,r1,r2,r3,r4,rfl,hcar,hb⟩
 obtain⟨p0,q0,p1,q1,p2,q2,p3,q3,p4,q4⟩:=Y6 hcar h0 g0 h1 g1 h2 g2 h3 g3 h4 g4
 have hg:w1.heap[w.heap.size]? =some (.cells #[.int .u64 a0,.int .u64 a1,.int .u64 a2,.int .u64 a3,.int .u64 a4] 221):=by
  rw[hb.block _ (by simp<;>omega)]
  simp only[cI,wU]
  simp
 have hg1:w1.heap[w.heap.size+1]? =some (.cells #[.int .u64 0,.int .u64 0,.int .u64 0,.int .u64 0,.int .u64 0] 221):=by
  rw[hb.block _ (by simp<;>omega)]
  simp only[cI,wU]
  simp
 have hb0:Below w.heap.size w w1:=((((Below.refl w.heap.size w).alloc (by simp) _).alloc (by simp) _)).trans (hb.mono (by simp<;>omega))
 have hsz:w.heap.size+2≤w1.heap.size:=by have:=hb.size;simpa using this
 clear hb
 go_wp2_with(first|refine wpList_store_row rfl 221 _ _ rfl _ #[.int .u64 r0,.int .u64 r1,.int .u64 r2,.int .u64 r3,.int .u64 r4] rfl rfl _ _ hg oF rfl (acW _ _ _ _ _ _) ?_ |refine wpLr rfl 221 _ rfl _ rfl _ _ _ _ (setRow_heap _ _ _ _ _ _ hg) underlying221 rfl oF ?_)
 refine wp_loop_rounds 6 ?_
 iterate 5 (rw[rdS];go_wp2)
 have hz1:∀o,((w1.setRow w.heap.size #[.int .u64 r0,.int .u64 r1,.int .u64 r2,.int .u64 r3,.int .u64 r4]).alloc o).heap[w.heap.size+1]? =some (.cells #[.int .u64 0,.int .u64 0,.int .u64 0,.int .u64 0,.int .u64 0] 221):=by
  intro o
  rw[cI,if_neg (by simp<;>omega),cG _ _ _ _ (by omega)]
  exact hg1
 have hz0:∀o,((w1.setRow w.heap.size #[.int .u64 r0,.int .u64 r1,.int .u64 r2,.int .u64 r3,.int .u64 r4]).alloc o).heap[w.heap.size]? =some (.cells #[.int .u64 r0,.int .u64 r1,.int .u64 r2,.int .u64 r3,.int .u64 r4] 221):=by
  intro o
  rw[cI,if_neg (by simp<;>omega)]
  exact setRow_heap _ _ _ _ _ _ hg
 have hbo:∀o cs,Below w.heap.size w (((w1.setRow w.heap.size #[.int .u64 r0,.int .u64 r1,.int .u64 r2,.int .u64 r3,.int .u64 r4]).alloc o).setRow (w.heap.size+1) cs):=fun o cs=>
  aO ((aO hb0 _ (nQ _) _).alloc (by simp<;>omega) o) _ (by omega) cs
 have hn:=VF r0 r1 r2 r3 r4 p0 q0 p1 q1 p2 q2 p3 q3 p4 q4 _ rfl
 have HN:Hid (_∧_):=hn
 have HB:Hid (∀o cs,_):=hbo
 have HV:Hid (∃q,_):=LN hcar
 clear hn hbo hcar
 rw[rdS]
 go_wp2_with(first|refine wpLr rfl 221 _ rfl w.heap.size rfl _ _ _ _ (hz0 _) underlying221 rfl oF ?_ |refine wpList_store_row rfl 221 _ _ rfl (w.heap.size+1) _ rfl rfl _ _ (hz1 _) oF rfl (acW _ _ _ _ _ _) ?_)
 ·have hpos:0<(r4+(r3+(r2+(r1+(r0+5) / 67108864) / 67108864) / 67108864) / 67108864) / 67108864:=by assumption
  obtain⟨q,hq⟩:=HV.out
  obtain⟨v1,v2⟩:=HN.out.1 hpos
  have v3:=HN.out.2.2.1
  refine pW (cs:=#[.int .u64 _,.int .u64 _,.int .u64 _,.int .u64 _,.int .u64 _]) results133 ?_ (setRow_heap _ _ _ _ _ _ (hz1 _)) underlying221 oF ?_
  ·rfl
  ·refine⟨_,_,_,_,_,rfl,?_,⟨q+1,by rw[v1,hq];unfold gV;omega⟩,by rw[v1];unfold gV at*;omega,HB.out _ _⟩
   rw[mS _ (by omega) (by omega),mS _ (by omega) (by omega),mS _ (by omega) (by omega),mS _ (by omega) (by omega),mS _ (by omega) (by omega)]
   unfold pR
   omega
 ·have hneg:¬0<(r4+(r3+(r2+(r1+(r0+5) / 67108864) / 67108864) / 67108864) / 67108864) / 67108864:=by first|assumption|omega
  obtain⟨q,hq⟩:=HV.out
  refine pW (cs:=#[.int .u64 _,.int .u64 _,.int .u64 _,.int .u64 _,.int .u64 _]) results133 ?_ (setRow_heap _ _ _ _ _ _ (hz1 _)) underlying221 oF ?_
  ·rfl
  ·exact⟨_,_,_,_,_,rfl,⟨p0,q0,p1,q1,p2,q2,p3,q3,p4,q4⟩,⟨q,hq⟩,HN.out.2.1 (by omega),HB.out _ _⟩
end Go.Proofs.YtmjccemdldidaaaGreatDoor
