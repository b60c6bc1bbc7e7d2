/- What snapPlays_proved stands on, part 10 of 10. -/
import Derived.Test.YtpnccmlajhhpdaaSP9
namespace Go.Proofs.Ytpnccmlajhhpdaa
open Go.RowKit Abs
theorem eqMk(a b c d:Int):z9f Try.prog TMk (.agg [.int .i64 a,.int .i64 b]) (.agg [.int .i64 c,.int .i64 d])=some (decide (a=c∧b=d)):=by
 have hf:flatB Try.prog TMk [1,1]=true:=by kernel_rfl
 have he:eqL [1,1] [.int .i64 a,.int .i64 b] [.int .i64 c,.int .i64 d]=some ((a == c)&&((b == d)&&true)):=z44b rfl (z31e _ _ _) (z44b rfl (z31e _ _ _) rfl);rw[eq_flat hf he]
 by_cases h1:a=c
 ·by_cases h2 : b = d
  ·simp[h1,h2]
  ·simp[h2]
 ·simp[h1]
abbrev TSp:Nat:=57
structure Sp where
 k:Int
 n:Int
 t:Int
 f:Int
 s:Bytes
 v:AV
noncomputable def spC(x:Sp):List AV:=[.int .i64 x.k,.int .i64 x.n,.int .i64 x.t,.int .i64 x.f,z5 x.s,x.v]
def SpOk(N:Nat)(h:AHeap)(x:Sp):Prop:=I64 x.k∧I64 x.n∧x.s.length≤reachBytes∧∃zs:List Int,Slc N h 1 x.v (zs.map fun z=>[.int .i64 z])∧zs.length<9223372036854775808
def z46a:List Sp→Nat
 |[]=>0
 |c::l=>c.s.length+z46a l
theorem sp_one{x:Sp}(hv:x.v.one=true):(spC x).all AV.one=true:=by
 show (true&&(true&&(true&&(true&&(true&&(x.v.one&&true))))))=true;rw[hv];rfl
theorem SpOk.one{N:Nat}{h:AHeap}{x:Sp}(k:SpOk N h x):x.v.one=true:=by
 obtain⟨_,_,_,zs,hs,_⟩:=k
 rcases hs.2 with⟨_,e|e⟩|⟨b,_,_,e,_⟩<;>rw[e]<;>rfl
set_option maxRecDepth 100000 in
theorem sp_of{N m:Nat}{h:AHeap}{l:List AV}(hp:Plain Try.prog N h (m+4) TSp l):∃x:Sp,l=spC x∧SpOk N h x:=by
 obtain⟨ls,rfl,hlen,hf⟩:=hp.structEach Try.underlying57
 obtain⟨l0,l1,l2,l3,l4,rfl⟩:∃l0 l1 l2 l3 l4,ls=[l0,l1,l2,l3,l4]:=by
  match ls,hlen with
  |[a,b,c,d,e],_=>exact⟨a,b,c,d,e,rfl⟩
 obtain⟨z0,rfl,w0⟩:=(hf 0 _ _ rfl rfl).int Try.underlying3;obtain⟨z1,rfl,w1⟩:=(hf 1 _ _ rfl rfl).int Try.underlying3;obtain⟨ms,rfl,hml,hmf⟩:=(hf 2 _ _ rfl rfl).structEach Try.underlying39
 obtain⟨m0,m1,rfl⟩:∃m0 m1,ms=[m0,m1]:=by
  match ms,hml with
  |[a,b],_=>exact⟨a,b,rfl⟩
 obtain⟨y0,rfl,_⟩:=(hmf 0 _ _ rfl rfl).int Try.underlying3;obtain⟨y1,rfl,_⟩:=(hmf 1 _ _ rfl rfl).int Try.underlying3;obtain⟨u,rfl,w3⟩:=(hf 3 _ _ rfl rfl).str Try.underlying9;obtain⟨x,ks,rfl,w4,w5,w6⟩:=(hf 4 _ _ rfl rfl).slice Try.underlying44;obtain⟨zs,rfl,w7⟩:=ints_of Try.underlying3 w6;have hc:Try.prog.cellsOf 3=1:=by kernel_rfl
 have hb:Try.prog.bytesOf 3=8:=by kernel_rfl
 have hrb:reachBytes=140737488351232:=rfl;rw[hc] at w4;rw[hb,List.length_map] at w5;exact⟨⟨z0,z1,y0,y1,u,x⟩,rfl,wf_i64 w0,wf_i64 w1,w3,zs,w4,by omega⟩
set_option maxRecDepth 100000 in
theorem sps_of{N m:Nat}{h:AHeap}{a:AV}(hp:ArgP Try.prog N h (m+5) 52 a):∃xs:List Sp,Slc N h 6 a (xs.map spC)∧(∀x∈xs,SpOk N h x)∧xs.length≤reachBytes:=by
 obtain⟨ls,h1,h2,h3⟩:=hp.slice Try.underlying52;obtain⟨xs,rfl,h4⟩:=map_of (f:=spC) (Q:=SpOk N h) ls fun l hl=>sp_of (h3 l hl);have hc:Try.prog.cellsOf TSp=6:=by kernel_rfl
 have hb:Try.prog.bytesOf TSp=72:=by kernel_rfl
 rw[hc] at h1;rw[hb,List.length_map] at h2;exact⟨xs,h1,h4,by omega⟩
section
variable {n d N:Nat}{h:AHeap}{a:AV}{xs:List Sp}
theorem z318(hs:Slc N h 6 a (xs.map spC))(hN:N≤h.next)(ho:∀x∈xs,x.s.length≤reachBytes∧x.v.one=true){k7:AHeap→R}{Q:ARes→AHeap→Prop}(hk:∀H,Tch [] h H→z46a xs≤262144→Wp (k7 H) Q)(hq:∀H,Tch [] h H→Q (.ret (.bool true)) H):
  ∀(todo:List Sp) (i fu t:Nat) (H:AHeap),xs.drop i=todo→todo.length<fu→t≤262144→t+z46a todo=z46a xs→Tch [] h H→xs.length≤reachBytes→Wp (zda a (xs.length:Int) k7 fu (t:Int) (i:Int) H) Q
 |_,_,0,_,_,_,hf,_,_,_,_=>by omega
 |[],i,fu+1,t,H,hd,hf,ht,hsum,T,_=>by
  have:=z410 hd;rw[z13a];unfold zc0;exact Wp.lett (y8 (by rw[decide_eq_false_iff_not];omega) (hk H T (by have h0:z46a []=0:=rfl;omega)))
 |c::todo,i,fu+1,t,H,hd,hf,ht,hsum,T,hl=>by
  obtain⟨hi,hci,hd2⟩:=z411 hd;rw[List.length_cons] at hf;have hrb:reachBytes=140737488351232:=rfl;have hs2:=hs.tch T hN (fun b hb=>nomatch hb);obtain⟨b,hb,e1,e2⟩:=hs2.row (i:=i) (by rw[List.length_map];exact hi);rw[List.getElem_map,hci] at e2;obtain⟨hc,hv1⟩:=ho c (hci▸List.getElem_mem hi);have hss:z46a (c::todo)=c.s.length+z46a todo:=rfl;rw[z13a];unfold zc0;refine Wp.lett (y9 (by rw[decide_eq_true_eq];omega) (Wp.obind e1 (Wp.obind e2 (y12 (Mem.nil [] H) fun h2 M2=>?_))));rw[z23];refine y18 M2 rfl rfl (sp_one hv1) fun h3 M3=>?_;have t3:=M3.tch;have T3:=T.trans t3;have g4:(spC c)[4]? =some (z5 c.s):=rfl;have hlc:=z2d c.s
  have hmin:(if 524288<z3b c.s then 524288 else z3b c.s)=((min 524288 c.s.length:Nat):Int):=by
   rw[hlc]
   split<;>omega
  refine y16 M3 g4 (Wp.obind (ze _) (Wp.lett ?_));rw[hmin];refine yd (by omega) (by omega) (Wp.lett ?_)
  by_cases h1:(t:Int)+((min 524288 c.s.length:Nat):Int)>262144
  ·exact y9 (decide_eq_true h1) (Wp.ret (hq _ T3))
  ·refine y8 (decide_eq_false h1) (yd (by omega) (by omega) ?_)
   rw[show (t:Int)+((min 524288 c.s.length:Nat):Int)=((t+c.s.length:Nat):Int) by omega,show (i:Int)+1=((i+1:Nat):Int) by omega];exact z318 hs hN ho hk hq todo (i+1) fu (t+c.s.length) h3 hd2 (by omega) (by omega) (by omega) T3 hl
theorem heavy_w(hs:Slc N h 6 a (xs.map spC))(hN:N≤h.next)(ho:∀x∈xs,x.s.length≤reachBytes∧x.v.one=true)(hl:xs.length≤reachBytes)(hn:reachBytes<n):∃h' b,world n (d+1) 19 [a] h=some (.ret (.bool b),h')∧Tch [] h h'∧(b=false→z46a xs≤262144∧xs.length≤60):=by
 suffices hK:Wp (world n (d+1) 19 [a] h) fun r h'=>∃b,r=.ret (.bool b)∧Tch [] h h'∧(b=false→z46a xs≤262144∧xs.length≤60) by
  obtain⟨_,h',e,b,rfl,k⟩:=hK;exact⟨h',b,e,k⟩
 rw[z333];unfold z121;have hlen:=hs.len;rw[List.length_map] at hlen;refine Wp.obind hlen (y7 fun k7 e7=>z318 hs hN ho (fun H T hsum=>?_) (fun H T=>⟨true,rfl,T,fun h=>nomatch h⟩) xs 0 n 0 h rfl (by omega) (by omega) (by omega) (Tch.refl _ _) hl);rw[e7];refine Wp.obind hlen (Wp.lett (Wp.ret ⟨_,rfl,T,fun h=>?_⟩));rw[decide_eq_false_iff_not] at h;exact⟨hsum,by omega⟩
end
theorem SOk.repE{s:DS}{B f:Nat}{u:Bytes}(k:SOk s B):SOk (repE s f u).2 (B+u.length+2):=by
 have h1:=k.act (z:=(f:Int)) (c:=chA u) (.inl rfl);have h2:SOk (z287 s (f:Int) (chA u)) (B+u.length+1):=h1;unfold Go.Proofs.Ytpnccmlajhhpdaa.repE
 split
 ·exact h2.mono (by omega)
 ·exact(h2.syn _).mono (by omega)
theorem SOk.save{s:DS}{B:Nat}{m:Mk}{u:Bytes}(k:SOk s B):SOk (z89 s m u).2 (B+(z4e m u).length+4):=by
 have rep:∀f,SOk (z281 s f (z4e m u)).2 (B+(z4e m u).length+4):=fun f=>by
  have h1:SOk (z287 s (f:Int) chR) (B+1):=(k.act (z:=(f:Int)) (c:=chR) (.inr (.inr rfl))).mono (by show B+0+1≤_;omega);unfold z281
  split
  ·split
   ·exact h1.mono (by omega)
   ·exact h1.repE.mono (by omega)
  ·exact k.repE.mono (by omega)
 unfold z89
 split
 ·exact k.mono (by omega)
 ·split
  ·exact k.mono (by omega)
  ·split
   ·exact k.mono (by omega)
   ·split
    ·exact k.mono (by omega)
    ·exact rep _
structure Dd (N:Nat) (lo lo2:Nat→Prop) (H:AHeap) (db rb:Nat) (s:DS) (B:Nat):Prop where
 K:At lo H db s B
 V:RefAt lo2 H rb s
 ok:SOk s B
 sub:∀b,lo b→lo2 b
 hl:∀b,lo2 b→N≤b
 hr:N≤rb
 hN:N≤H.next
section
variable {N n d D db rb B:Nat}{lo lo2 lo':Nat→Prop}{h0 H H':AHeap}{s:DS}{u:Bytes}{m:Mk}{Q:ARes→AHeap→Prop}
theorem Dd.nr(Y:Dd N lo lo2 H db rb s B):¬lo2 rb∧rb<H.next:=by
 obtain⟨_,_,V⟩:=Y.V;exact⟨V.nlo,V.hrb⟩
theorem Dd.alloc(Y:Dd N lo lo2 H db rb s B)(T:Tch [] H H'):Dd N (shr lo H.next H'.next) (shr lo2 H.next H'.next) H' db rb s B:=
 ⟨Y.K.part T (fun _ h=>nomatch h),Y.V.tch T (fun _ h=>nomatch h) (fun _ h _=>h.1),Y.ok,fun b hb=>⟨Y.sub b hb.1,hb.2⟩,fun b hb=>Y.hl b hb.1,Y.hr,Nat.le_trans Y.hN T.1⟩
theorem Dd.crash(Y:Dd N lo lo2 H db rb s B)(hn:1000000<n)(hB:B<900000){torn:Int}(ht:torn<9223372036854775808){lv:AV}{zs:List Int}(hz:zs.length<9223372036854775808)(rd:RdI (fun b=>lo2 b∨b=rb) H lv zs):
  ∃H1 H2 S2,wL n (D+6) (d+1) false 24 [.ptr rb 0,lv,.int .i64 torn] H=some (.ret (.tup []),H1)∧Tch [rb] H H1∧wL n (D+6) (d+1) false 25 [.ptr db 0,lv,.int .i64 torn] H1=some (.ret (.int .i64 0),H2)∧Tch S2 H1 H2∧(∀b∈S2,lo b)∧Dd N lo lo2 H2 db rb (z1e7 s zs torn) B:=by
 obtain⟨nr,lr⟩:=Y.nr;obtain⟨H1,e1,t1,V1⟩:=crash_r (n:=n) (d:=D+4) hn Y.V Y.ok hB ht rd;have K1:=Y.K.tch t1 (fun b hb=>.inl (by rw[List.mem_singleton.1 hb];exact fun h=>nr (Y.sub _ h)));have rd1:=rd.tch t1 (fun b hb=>.inr (List.mem_singleton.1 hb));have rd2:RdI lo H1 lv zs:=⟨rd1.1,fun S h t hS i hi=>rd1.2 S h t (fun b hb=>.inl (Y.sub b (hS b hb))) i hi⟩;obtain⟨H2,S2,e2,K2,t2,hS2⟩:=z459 (n:=n) (d:=D+2) hn hB ht hz K1 rd2;exact⟨H1,H2,S2,(z1ad 24).trans e1,t1,(z1ad 25).trans e2,t2,hS2,K2,V1.tch t2 (fun b hb=>.inl (Y.sub b (hS2 b hb))) (fun _ h _=>h),Y.ok.crash zs torn,Y.sub,Y.hl,Y.hr,Nat.le_trans Y.hN (Nat.le_trans t1.1 t2.1)⟩
theorem Dd.save(Y:Dd N lo lo2 H db rb s B)(hn:2000000000<n)(hB:B+(z4e m u).length <700000)(hu:u.length≤1000000000):
  ∃lo' lo2' H1 H2 S1,wL n (D+9) (d+8) false 15 [.ptr db 0,.agg (mkC m),z5 u] H=some (.ret (.int .i64 (z89 s m u).1),H1)∧Tch S1 H H1∧(∀b∈S1,lo2 b)∧
   wL n (D+9) (d+8) false 21 [.ptr rb 0,.agg (mkC m),z5 u] H1=some (.ret (.int .i64 (z89 s m u).1),H2)∧Tch [rb] H1 H2∧Dd N lo' lo2' H2 db rb (z89 s m u).2 (B+(z4e m u).length+5)∧∀b,lo2' b→lo2 b:=by
 obtain⟨nr,lr⟩:=Y.nr;obtain⟨H1,S1,lo1,e1,K1,t1,hS1,hl1⟩:=Save_w (n:=n) (D:=D+3) (d:=d) (m:=m) (u:=u) Y.K (by omega) hu hn;have n1:=t1.1;have hS1':∀b∈S1,lo2 b:=fun b hb=>Y.sub b (hS1 b hb);have V1:RefAt lo2 H1 rb s:=Y.V.tch t1 (fun b hb=>.inl (hS1' b hb)) (fun _ h _=>h);obtain⟨H2,e2,t2,V2⟩:=rsave_w (n:=n) (d:=D) (m:=m) (u:=u) V1 Y.ok hB hu K1.ex (by omega);have n2:=t2.1;have K2:=K1.part t2 (fun b hb=>.inl (by rw[List.mem_singleton.1 hb];exact fun h=>nr (Y.sub _ (hl1 _ h))));have hNH:=Y.hN;exact⟨_,_,H1,H2,S1,e1,t1,hS1',(z1ad 21).trans e2,t2,⟨K2,V2,Y.ok.save.mono (by omega),fun b hb=>⟨Y.sub b (hl1 b hb.1),hb.2⟩,fun b hb=>Y.hl b hb.1,Y.hr,by omega⟩,fun b hb=>hb.1⟩
theorem Dd.app(Y:Dd N lo lo2 H db rb s B)(hn:1000000<n){u:Bytes}(hB:B+u.length<800000)(z:Int):
  ∃lo' lo2' H1 H2 S1,wL n (D+9) (d+1) false 26 [.ptr db 0,.int .i64 z,z5 u] H=some (.ret (.int .i64 (z1e6 s z ⟨0,u,0⟩)),H1)∧Tch S1 H H1∧(∀b∈S1,lo2 b)∧
   wL n (D+9) (d+1) false 27 [.ptr rb 0,.int .i64 z,.agg (z1d1 ⟨0,u,0⟩)] H1=some (.ret (.int .i64 (z1e6 s z ⟨0,u,0⟩)),H2)∧Tch [rb] H1 H2∧Dd N lo' lo2' H2 db rb (z287 s z ⟨0,u,0⟩) (B+u.length+2)∧∀b,lo2' b→lo2 b:=by
 obtain⟨nr,lr⟩:=Y.nr;obtain⟨H1,S1,e1,K1,t1,hS1⟩:=z235 (n:=n) (d:=D+6) (u:=u) (z:=z) hn Y.K (by omega);have n1:=t1.1;have hS1':∀b∈S1,lo2 b:=fun b hb=>Y.sub b (hS1 b hb);have V1:RefAt lo2 H1 rb s:=Y.V.tch t1 (fun b hb=>.inl (hS1' b hb)) (fun _ h _=>h);obtain⟨D1,vs1,VD1⟩:=id V1;obtain⟨H2,e2,t2,V2⟩:=z36d (n:=n) (d:=D+5) (c:=⟨0,u,0⟩) hn VD1 Y.ok (by omega) K1.ex z;have n2:=t2.1;have K2:=K1.part t2 (fun b hb=>.inl (by rw[List.mem_singleton.1 hb];exact fun h=>nr (Y.sub _ h)));have hNH:=Y.hN;exact⟨_,_,H1,H2,S1,(z1ad 26).trans e1,t1,hS1',(z1ad 27).trans e2,t2,⟨K2,V2,(Y.ok.act (.inl rfl)).mono (by show B+u.length+1≤_;omega),fun b hb=>⟨Y.sub b hb.1,hb.2⟩,fun b hb=>Y.hl b hb.1,Y.hr,by omega⟩,fun b hb=>hb.1⟩
end
theorem slc_rdi{lo:Nat→Prop}{N:Nat}{h:AHeap}{v:AV}{zs:List Int}(k:Slc N h 1 v (zs.map fun z=>[.int .i64 z]))(hN:N≤h.next)(hl:∀b,lo b→N≤b):RdI lo h v zs:=by
 refine⟨by have:=k.len;rw[List.length_map] at this;exact this,fun S H t hS i hi=>?_⟩;obtain⟨b,_,h1,h2⟩:=(k.tch t hN fun b hb=>hl b (hS b hb)).cell (f:=.int .i64) hi;exact⟨_,h1,h2⟩
theorem z2c9(m:Mk):z9f Try.prog TMk (.agg (mkC m)) (.agg (mkC m))=some true:=by
 refine(eqMk m.i m.t m.i m.t).trans ?_;rw[decide_eq_true (⟨rfl,rfl⟩:m.i=m.i∧m.t=m.t)]
theorem at_neg(a b:Option (Mk×Bytes)):decide (atR a b<0)= !(z112 a b).isSome:=by
 rw[←at_some]
 by_cases h:atR a b≥0
 ·rw [decide_eq_true h, decide_eq_false (by omega)]
  rfl
 ·rw [decide_eq_false h, decide_eq_true (by omega)]
  rfl
section
variable {N n d D db rb B:Nat}{lo lo2 lo':Nat→Prop}{h0 H H':AHeap}{s:DS}{u:Bytes}{m:Mk}{a:AV}{xs:List Sp}{Q:ARes→AHeap→Prop}
theorem nlo_part{h0 h1:AHeap}{b:Nat}(h2:h0.next≤b)(h3:b<h1.next):¬shr lo h0.next h1.next b:=fun hh=>by
 rcases hh.2 with h|h<;>omega
theorem Load0_w(K:At lo H db s B)(hp:s.p=0):∃H',wL n (D+6) (d+7) false 14 [.ptr db 0] H=some (.ret (.tup [.agg (mkC ⟨0,0⟩),z5 [],.int .i64 40]),H')∧Tch [] H H':=by
 suffices hK:Wp (zff (wL n (D+6) (d+6) false) n (.ptr db 0) H) fun r H'=>r=.ret (.tup [.agg (mkC ⟨0,0⟩),z5 [],.int .i64 40])∧Tch [] H H' by
  obtain⟨_,H',e,rfl,t⟩:=hK;exact⟨H',z264 n (D+6) (d+6) _ e,t⟩
 unfold zff;refine y12 (Mem.nil [] H) fun h2 M2=>?_;have t2:=M2.tch;have K2:=K.part t2 (fun _ h=>nomatch h);have er:=z3f7 (n:=n) (D:=D) (d:=d+5) K2;rw[if_pos hp] at er;refine Wp.callN er (Wp.obind (z7 _ _) (Wp.lett (y9 rfl ?_)));rw[z23 H];exact y18 M2 rfl rfl rfl fun h8 M8=>y1e M8 rfl (Wp.ret ⟨rfl,M8.tch⟩)
theorem LoadAny_w(K:At lo H db s B)(hB:B≤1048576)(hn:2000000000<n):∃H' mk tx e,wL n (D+6) (d+7) false 14 [.ptr db 0] H=some (.ret (.tup [.agg (mkC mk),z5 tx,.int .i64 e]),H')∧Tch [] H H'∧(s.p=0→mk=⟨0,0⟩∧tx=[]∧e=40)∧(s.p≠0→mk=mkO (z108 s)∧tx=txO (z108 s)∧e=if (z108 s).isSome=true then 0 else 4):=by
 by_cases hp:s.p=0
 ·obtain ⟨H', e, t⟩ := Load0_w (n := n) (D := D) (d := d) K hp
  exact⟨H',_,_,_,e,t,fun _=>⟨rfl,rfl,rfl⟩,fun h=>absurd hp h⟩
 ·have z2 := K.seen_len (z := 2) (by decide)
  have z3:=K.seen_len (z:=3) (by decide);obtain⟨H',e,t⟩:=Load_w (n:=n) (D:=D) (d:=d) K hp (by omega) (by omega) hn;exact⟨H',_,_,_,e,t,fun h=>absurd h hp,fun _=>⟨rfl,rfl,rfl⟩⟩
theorem z2fd(Y:Dd N lo lo2 H db rb s B){k85:AHeap→R}(hk:Wp (k85 H) Q):
  ∀(r i fu:Nat),r+i=4→r<fu→Wp (z7c (wL n (D+9) (d+1) false) (.ptr db 0) (.ptr rb 0) k85 fu (i:Int) H) Q
 |_,_,0,_,hf=>by omega
 |0,i,fu+1,hi,_=>by
  obtain rfl:i=4:=by omega
  rw[zcc];unfold z6e;exact Wp.lett (y8 rfl hk)
 |r+1,i,fu+1,hi,hf=>by
  have hi32:i<32:=by omega
  obtain⟨DD,vs,R'⟩:=Y.V;have C:=R'.cells i hi32;have rl:=R'.rl i hi32;have hops:=ops_b (n:=n) (d:=D+8) Y.K;have g97:DD[0+97]? =some (.int .i64 (s.ops:Int)):=R'.co;have eS:=sure_a (n:=n) (d:=D+7) (z:=(i:Int)) Y.K;rw[if_pos (show isF (i:Int) from ⟨by omega,by omega⟩),if_pos (show isF (i:Int) from ⟨by omega,by omega⟩),Int.toNat_natCast] at eS;have eL:=loose_a (n:=n) (d:=D+7) (z:=(i:Int)) Y.K;rw[if_pos (show isF (i:Int) from ⟨by omega,by omega⟩),Int.toNat_natCast] at eL;rw[zcc];unfold z6e;refine Wp.lett (y9 (by rw[decide_eq_true_eq];omega) (Wp.callN ((z1ad 28).trans eS) (Wp.obind (zf9 _ _) (Wp.obind (ze _) (Wp.obind (zf8 _ _ _) (Wp.obind (z11 _) (y7 fun k104 e104=>Wp.obind (zf _ _) (Wp.obind (z8 _ _ _) (Wp.obind (RowH.cell' R'.row g97) (Wp.obind (z7 _ _) (Wp.callN ((z1ad 29).trans hops) (Wp.obind (z7 _ _) (Wp.chk (z186 (ze4 (by kernel_rfl) (RowH.cell' R'.row g97)) rfl) (Wp.lett ?_))))))))))))));rw[show ((s.ops:Int) != (s.ops:Int))=false from z185 rfl];refine y8 rfl (Wp.obind (zf _ _) (Wp.obind (z8 _ _ _) (Wp.obind (idxR hi32) (Wp.obind (z8 _ _ _) (Wp.obind (z8 _ _ _) (Wp.obind (RowH.cell' R'.row C.c1) (Wp.obind (ze _) (Wp.lett ?_))))))));rw[ze5.2 (rfl:(s.fs i).sure.u=(s.fs i).sure.u)];refine y8 rfl (Wp.obind (zf _ _) (Wp.obind (z8 _ _ _) (Wp.obind (idxR hi32) (Wp.obind (z8 _ _ _) (Wp.obind (z8 _ _ _) (Wp.obind (RowH.cell' R'.row C.c0) (Wp.obind (z11 _) (Wp.lett ?_))))))));rw[show (!((s.fs i).sure.th == (s.fs i).sure.th))=false by cases(s.fs i).sure.th<;>rfl];refine y8 rfl (Wp.obind (zf _ _) (Wp.obind (z8 _ _ _) (Wp.obind (idxR hi32) (Wp.obind (z8 _ _ _) (Wp.obind (RowH.cell' R'.row C.c2) (Wp.obind rl.len (Wp.callN ((z1ad 30).trans eL) (Wp.obind (z7 _ _) (Wp.chk (z186 (ze4 (by kernel_rfl) (RowH.cell' R'.row C.c2)) rfl) (Wp.lett ?_))))))))));rw[show (((s.fs i).loose.length:Int) != ((s.fs i).loose.length:Int))=false from z185 rfl,e104];refine y8 rfl (yd (by omega) (by omega) ?_);rw[show (i:Int)+1=((i+1:Nat):Int) by omega];exact z2fd Y hk r (i+1) fu (by omega) (by omega)
set_option maxHeartbeats 4000000 in
theorem z30b(hn:2000000000<n)(hs:Slc h0.next h0 6 a (xs.map spC))(ho:∀x∈xs,SpOk h0.next h0 x)(hl:xs.length≤100){k36:AHeap→R}(hk:∀H,Wp (k36 H) Q):
  ∀(todo:List Sp) (i fu:Nat) (H:AHeap) (lo lo2:Nat→Prop) (s:DS) (B:Nat),xs.drop i=todo→todo.length<fu→Dd h0.next lo lo2 H db rb s B→B+2*z46a todo+70*todo.length≤600000→Tch [] h0 H→
   Wp (z7d (wL n (D+9) (d+9) false) n a (.ptr db 0) (.ptr rb 0) (xs.length:Int) k36 fu (i:Int) H) Q
 |_,_,0,_,_,_,_,_,_,hf,_,_,_=>by omega
 |[],i,fu+1,H,lo,lo2,s,B,hd,hf,Y,hB,T=>by
  have:=z410 hd;rw[zcd];unfold z6f;exact Wp.lett (y8 (by rw[decide_eq_false_iff_not];omega) (hk H))
 |c::todo,i,fu+1,H,lo,lo2,s,B,hd,hf,Y,hB,T=>by
  obtain⟨hi,hci,hd2⟩:=z411 hd;rw[List.length_cons] at hf hB;have hss:z46a (c::todo)=c.s.length+z46a todo:=rfl;rw[hss] at hB;have hs2:=hs.tch T (Nat.le_refl _) (fun b hb=>nomatch hb);obtain⟨b,hb,e1,e2⟩:=hs2.row (i:=i) (by rw[List.length_map];exact hi);rw[List.getElem_map,hci] at e2;have oc:=ho c (hci▸List.getElem_mem hi);have oc1:=oc.one;obtain⟨_,icn,hcs,zs,hzs,hzl⟩:=oc;rw[zcd];unfold z6f;refine Wp.lett (y9 (by rw[decide_eq_true_eq];omega) (Wp.obind e1 (Wp.obind e2 (y12 (Mem.nil [] H) fun h2 M2=>?_))));rw[z23 H];refine y18 M2 rfl rfl (sp_one oc1) fun h3 M3=>?_;have t3:=M3.tch;have k3:=M3.at0.1;have l3:=M3.at0.2.1;have Y3:=Y.alloc t3;have T3:=T.trans t3;have nb3:¬shr lo2 H.next h3.next H.next:=nlo_part (Nat.le_refl _) l3;have hrH:rb<H.next:=Y.nr.2;have hHr:H.next≠rb:=by omega
  have g0:(spC c)[0]? =some (.int .i64 c.k):=rfl;have g1:(spC c)[1]? =some (.int .i64 c.n):=rfl;have g4:(spC c)[4]? =some (z5 c.s):=rfl;have g5:(spC c)[5]? =some c.v:=rfl;refine y16 M3 g0 (Wp.obind (z7 _ _) (Wp.lett (y7 fun k48 e48=>?_)))
  have K48:∀(h5:AHeap) (s5:DS) (lo5 lo25:Nat→Prop) (B5:Nat),Dd h0.next lo5 lo25 h5 db rb s5 B5→B5+2*z46a todo+70*todo.length≤600000→Tch [] h0 h5→Wp (k48 h5) Q:=by
   intro h5 s5 lo5 lo25 B5 Y5 hB5 T5;rw[e48];refine y7 fun k52 e52=>z2fd (D:=D) (d:=d+8) Y5 ?_ 2 2 n rfl (by omega);rw[e52];refine yd (by omega) (by omega) ?_;rw[show (i:Int)+1=((i+1:Nat):Int) by omega];exact z30b hn hs ho hl hk todo (i+1) fu h5 _ _ s5 B5 hd2 (by omega) Y5 hB5 T5
  by_cases hk0:c.k=0
  ·have hv := z396 ⟨c.t, c.f⟩ c.s
   obtain⟨lo',lo2',H1,H2,S1,w1,t1,hS1,w2,t2,Y2,_⟩:=Y3.save (n:=n) (D:=D) (d:=d+1) (m:=⟨c.t,c.f⟩) (u:=c.s) (by omega) (by omega) (by omega);have gm:z2c h3 2 (.ptr H.next 2)=some (mkC ⟨c.t,c.f⟩):=k3.ld (o:=2) (n:=2) (show 2+2≤6 by decide);have k1:=k3.tch t1 l3 (fun h=>nb3 (hS1 _ h));have gm1:z2c H1 2 (.ptr H.next 2)=some (mkC ⟨c.t,c.f⟩):=k1.ld (o:=2) (n:=2) (show 2+2≤6 by decide);have T2:=(T3.trans' t1 fun b hb=>.inr (Y3.hl b (hS1 b hb))).trans' t2 fun b hb=>.inr (by rw[List.mem_singleton.1 hb];exact Y3.hr);refine y9 (z127 hk0) (Wp.obind gm (y16 M3 g4 (Wp.obind (ze _) (Wp.obind gm (y16 M3 g4 (Wp.obind (ze _) (Wp.callN w1 (Wp.obind (z7 _ _) (Wp.chk (z186 (ze4 (by kernel_rfl) (RowH.cell' k1 g4)) (z186 (reLoad_r (by kernel_rfl) (by kernel_rfl) gm1) rfl)) (Wp.callN w2 (Wp.obind (z7 _ _) (Wp.lett ?_))))))))))));rw[z185 rfl];exact y8 rfl (K48 H2 _ _ _ _ Y2 (by omega) T2)
  refine y8 (zca hk0) (Wp.lett (y7 fun k128 e128=>?_))
  by_cases hk1:c.k=1
  ·obtain ⟨h4, mk, tx, er, e4, t4, p0, p1⟩ := LoadAny_w (n := n) (D := D + 3) (d := d + 2) Y3.K (by omega) hn
   refine y9 (z127 hk1) (Wp.callK e4 (Wp.obind (zf9 _ _) (Wp.obind (z40 _) (Wp.obind (zf8 _ _ _) (Wp.obind (ze _) (Wp.obind (z165 _ _ _ _) (Wp.obind (z7 _ _) (y12 (Mem.nil [] h4) fun h5 M5=>?_))))))));rw[z23 h4];refine y18 M5 rfl rfl rfl fun h6 M6=>?_;have t6:=M6.tch;have T36:=t4.trans t6;have Y6:=Y3.alloc T36;have kA:=M6.at0.1;have lA:=M6.at0.2.1;obtain⟨h7,e7,t7⟩:=z4b2 (n:=n) (d:=D+1) Y6.V Y6.ok (by omega) Y6.K.ex (by omega);refine Wp.callN ((z1ad 22).trans e7) (Wp.obind (zf9 _ _) (Wp.obind (z40 _) (Wp.obind (zf8 _ _ _) (Wp.obind (ze _) (Wp.obind (z165 _ _ _ _) (Wp.obind (z7 _ _) (y12 (Mem.nil [] h7) fun h8 M8=>?_)))))));rw[z23 h7];refine y18 M8 rfl rfl rfl fun h9 M9=>?_;have t9:=M9.tch;have T69:=t7.trans t9;have Y9:=Y6.alloc T69;have n6:=t7.1;have kA9:=(kA.tch t7 lA (fun h=>nomatch h)).tch t9 (by omega) (fun h=>nomatch h);have kB9:=M9.at0.1;have T9:=(T3.trans T36).trans T69;obtain⟨D9,vs9,VD9⟩:=id Y9.V;have cp:D9[0+96]? =some (.int .i64 s.p):=VD9.cp;refine Wp.obind (zf _ _) (Wp.obind (z8 _ _ _) (Wp.obind (RowH.cell' VD9.row cp) (Wp.obind (z7 _ _) (Wp.lett (y7 fun k163 e163=>?_)))))
   have K163:Wp (k163 h9) Q:=by
    rw[e163,e128];exact K48 h9 s _ _ B Y9 (by omega) T9
   by_cases hp:s.p=0
   ·obtain ⟨rfl, rfl, rfl⟩ := p0 hp
    refine y9 (z127 hp) (Wp.lett (y7 fun j88 e88=>y8 rfl (Wp.obind (kA9.ldAll rfl) (Wp.obind (z2c9 ⟨0,0⟩) (Wp.lett ?_)))));rw[e88];refine y7 fun j92 e92=>y8 rfl (Wp.lett ?_);rw[e92];exact y8 rfl K163
   obtain⟨rfl,rfl,rfl⟩:=p1 hp;refine y8 (zca hp) (Wp.lett (y7 fun k181 e181=>?_))
   have K181:Wp (k181 h9) Q:=by
    rw[e181];exact K163
   rw[at_neg,show z112 (ofC (s.fs 2)) (ofC (s.fs 3))=z108 s from rfl];cases hlo:z108 s with
   |none=>
    rw[hlo] at kA9;refine y9 rfl (Wp.lett (y7 fun j102 e102=>y8 rfl (Wp.obind (kA9.ldAll rfl) (Wp.obind (z2c9 ⟨0,0⟩) (Wp.lett ?_)))));rw[e102];refine y7 fun j106 e106=>y8 rfl (Wp.lett ?_);rw[e106];exact y8 rfl K181
   |some x=>
    rw[hlo] at kA9 kB9;refine y8 rfl (Wp.lett (y7 fun j114 e114=>y8 rfl (Wp.obind (kA9.ldAll rfl) (Wp.obind (kB9.ldAll rfl) (Wp.obind (z2c9 _) (Wp.lett ?_))))));rw[e114];refine y7 fun j119 e119=>y8 rfl (Wp.lett ?_);rw[ze5.2 rfl,e119];exact y8 rfl K181
  refine y8 (zca hk1) (Wp.lett (y7 fun k215 e215=>?_))
  by_cases hk2:c.k=2
  ·obtain ⟨D5, vs5, VD5⟩ := Y3.V
   have hl5:=VD5.len;obtain⟨nr3,_⟩:=Y3.nr;refine y9 (z127 hk2) (y16 M3 g1 (Wp.obind (z7 _ _) (Wp.lett (Wp.obind (zf _ _) (Wp.obind (z8 _ _ _) (Wp.st1 VD5.row (show 0+96<D5.length by omega) rfl fun h4 k4 t4 n4=>?_))))));have V4:RefAt (shr lo2 H.next h3.next) h4 rb ⟨s.fs,if -1>c.n then -1 else c.n,s.ops⟩:=⟨_,_,VD5.po (lo':=shr lo2 H.next h3.next) (p':=if -1>c.n then -1 else c.n) (o':=s.ops) t4 (fun _ h _=>h) k4 (by rw[List.length_set];exact hl5) (fun i hi=>by rw[List.getElem?_set_ne (by omega)]) (by rw[Nat.zero_add,List.getElem?_set_self (by omega)]) (by rw[List.getElem?_set_ne (by omega)];exact VD5.co)⟩;have K4:=Y3.K.tch t4 (fun b hb=>.inl (by rw[List.mem_singleton.1 hb];exact fun h=>nr3 (Y3.sub _ h)));have b4:=k3.tch t4 l3 (fun h=>hHr (List.mem_singleton.1 h));obtain⟨h5,S5,e5,K5,t5,hS5⟩:=power_ok (n:=n) (d:=D+8) (m:=c.n) icn.2 K4;have V5:=V4.tch t5 (lo':=shr lo2 H.next h3.next) (fun b hb=>.inl (Y3.sub b (hS5 b hb))) (fun _ h _=>h)
   have hp5: -1≤(if -1>c.n then (-1:Int) else c.n)∧(if -1>c.n then (-1:Int) else c.n)<9223372036854775808:=by
    have:=icn.2
    split<;>omega
   have n5:=t5.1;have hN3:=Y3.hN;have Y5:Dd h0.next (shr lo H.next h3.next) (shr lo2 H.next h3.next) h5 db rb ⟨s.fs,if -1>c.n then -1 else c.n,s.ops⟩ B:=⟨K5,V5,⟨Y3.ok.ok,Y3.ok.lt,hp5,Y3.ok.ho⟩,Y3.sub,Y3.hl,Y3.hr,by omega⟩;refine Wp.obind (RowH.cell' b4 g1) (Wp.obind (z7 _ _) (Wp.callN ((z1ad 23).trans e5) (Wp.obind (z7 _ _) ?_)));rw[e215,e128];exact K48 h5 _ _ _ B Y5 (by omega) ((T3.trans' t4 fun b hb=>.inr (by rw[List.mem_singleton.1 hb];exact Y3.hr)).trans' t5 fun b hb=>.inr (Y3.hl b (Y3.sub b (hS5 b hb))))
  refine y8 (zca hk2) (Wp.lett (y7 fun k232 e232=>?_))
  by_cases hk3:c.k=3
  ·have hz3 := hzs.tch T3 (Nat.le_refl _) (fun b hb => nomatch hb)
   obtain⟨h7,h8,S8,e7,t7,e8,t8,hS8,Y8⟩:=Y3.crash (n:=n) (D:=D+3) (d:=d+8) (by omega) (by omega) (torn:=c.n) icn.2 hzl (slc_rdi hz3 T3.1 fun b hb=>hb.elim (Y3.hl b) fun h=>h▸Y3.hr);have k7:=k3.tch t7 l3 (fun h=>hHr (List.mem_singleton.1 h));have T8:=(T3.trans' t7 fun b hb=>.inr (by rw[List.mem_singleton.1 hb];exact Y3.hr)).trans' t8 fun b hb=>.inr (Y3.hl b (Y3.sub b (hS8 b hb)));refine y9 (z127 hk3) (y16 M3 g5 (y16 M3 g1 (Wp.obind (z7 _ _) (Wp.callN e7 (Wp.obind (RowH.cell' k7 g5) (Wp.obind (RowH.cell' k7 g1) (Wp.obind (z7 _ _) (Wp.callN e8 (Wp.obind (z7 _ _) ?_)))))))));rw[e232,e215,e128];exact K48 h8 _ _ _ B Y8 (by omega) T8
  ·obtain ⟨z, hz⟩ : ∃ z, IntKind.i64.wrap (2 + andI .i64 c.n 1) = z := ⟨_, rfl⟩
   obtain⟨lo',lo2',H1,H2,S1,w1,t1,hS1,w2,t2,Y2,_⟩:=Y3.app (n:=n) (D:=D) (d:=d+8) (u:=c.s) (by omega) (by omega) z;have k1:=k3.tch t1 l3 (fun h=>nb3 (hS1 _ h));have T2:=(T3.trans' t1 fun b hb=>.inr (Y3.hl b (hS1 b hb))).trans' t2 fun b hb=>.inr (by rw[List.mem_singleton.1 hb];exact Y3.hr);refine y8 (zca hk3) (y16 M3 g1 (Wp.obind (z7 _ _) (Wp.lett (Wp.lett ?_))));rw[hz];refine y16 M3 g4 (Wp.obind (ze _) (y16 M3 g4 (Wp.obind (ze _) (Wp.callN w1 (Wp.obind (z7 _ _) (Wp.chk (z186 (ze4 (by kernel_rfl) (RowH.cell' k1 g4)) rfl) (Wp.callN w2 (Wp.obind (z7 _ _) (Wp.lett ?_)))))))));rw[show (z1e6 s z ⟨0,c.s,0⟩ != z1e6 s z ⟨0,c.s,0⟩)=false from z185 rfl,e232,e215,e128];exact y8 rfl (K48 H2 _ _ _ _ Y2 (by omega) T2)
end
set_option maxRecDepth 100000 in
set_option maxHeartbeats 1000000 in
theorem z2ed(h:AHeap)(hX:h.ex=[89])(xs:List AV)(hP:z422 Try.prog h.next h 12 [52] xs):∃h',Says Try.prog 5 xs h (.ret (.bool true)) h':=by
 obtain⟨a,_,rfl,hp0,hP⟩:=args_cons hP
 obtain rfl:=args0 hP
 obtain⟨l,hs,ho,hll⟩:=sps_of hp0;have hrb:reachBytes=140737488351232:=rfl;obtain⟨n,hn⟩:∃n,140737488351232<n:=⟨140737488351233,Nat.lt_succ_self _⟩
 suffices hK:Wp (z109 (wL n (0+9) (0+9) false) n a h) fun r _=>r=.ret (.bool true) by
  obtain⟨_,h',e,rfl⟩:=hK;exact⟨h',z224 (wL_ok n (0+9) (0+9)).says e⟩
 unfold z109;obtain⟨h2,e2,S2,t2,hS2⟩:=works_w (n:=n) (D:=3) (d:=0) hX (by omega);have T2:Tch [] h h2:=t2.mono fun b hb=>.inr (hS2 b hb);have hs2:=hs.tch T2 (Nat.le_refl _) (fun b hb=>nomatch hb);obtain⟨h3,hv,e3,t3,hhv⟩:=heavy_w (n:=n) (d:=8) hs2 T2.1 (fun x hx=>⟨(ho x hx).2.2.1,(ho x hx).one⟩) hll (by omega);refine Wp.callK e2 (Wp.obind (z11 _) (Wp.lett (y8 rfl (Wp.callN ((z1ad 19).trans e3) (Wp.obind (z11 _) ?_)))));cases hv with
 |true=>exact y9 rfl (Wp.ret rfl)
 |false=>
 obtain⟨hsum,hlen⟩:=hhv rfl;have T3:=T2.trans t3;refine y8 rfl ?_;obtain⟨h4,e4,K4,t4⟩:=new_ok (n:=n) (d:=8) (h:=h3) (by rw[T3.2.1,hX]);have n4:=t4.1;obtain⟨h5,e5,t5,V5,l5⟩:=newR_ok (n:=n) (d:=8) (lo:=fun b=>h3.next≤b∧b≠h4.next) (h:=h4) (fun hh=>hh.2 rfl);have n5:=t5.1;have K5:=K4.part t5 (fun _ h=>nomatch h);have n3:=T3.1;have Y5:Dd h.next (shr (fun b=>h3.next≤b) h4.next h5.next) (shr (fun b=>h3.next≤b) h4.next h5.next) h5 h3.next h4.next newS 0:=⟨K5,V5.less fun b hb hlt=>⟨hb.1,by rcases hb.2 with h|h<;>omega⟩,⟨fun f hf=>⟨rfl,trivial,Nat.le_refl _,Nat.le_refl _⟩,fun _ _=>trivial,⟨by decide,by decide⟩,Nat.le_refl _⟩,fun _ h=>h,fun b hb=>Nat.le_trans n3 hb.1,by omega,by omega⟩;have T5:=(T3.trans t4).trans t5;have hlenL:=hs.len;rw[List.length_map] at hlenL;refine Wp.callN ((z1ad 13).trans e4) (Wp.callN ((z1ad 20).trans e5) (Wp.obind hlenL (y7 fun k36 e36=>z30b (D:=0) (d:=0) (h0:=h) (by omega) hs ho (by omega) (fun H=>?_) l 0 n h5 _ _ _ 0 rfl (by omega) Y5 (by omega) T5)));rw[e36];exact Wp.ret rfl
end Go.Proofs.Ytpnccmlajhhpdaa
