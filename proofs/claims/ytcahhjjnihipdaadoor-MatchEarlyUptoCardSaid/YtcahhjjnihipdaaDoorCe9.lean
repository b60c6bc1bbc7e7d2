/- What matchEarlyUpto_proved stands on, part 9 of 11. -/
import Derived.Test.YtcahhjjnihipdaaDoorCe8
namespace Go.Proofs.YtcahhjjnihipdaaDoor
open Go.RowKit Abs
noncomputable def z1c2(D:z2f4):List ArmT:=D.map fun x=>⟨x.1,za4 x.2,.nsl,[]⟩
theorem fresh_C:∀D:z2f4,z113 (z1c2 D)=(z471 D).flatten
 |[]=>rfl
 |x::D=>by
  show [AV.ptr x.1 0,.nsl]++z113 (z1c2 D)=[AV.ptr x.1 0,.nsl]++(z471 D).flatten;rw[fresh_C D]
theorem z3a4:∀D:z2f4,z56 (z1c2 D)=[]
 |[]=>rfl
 |x::D=>by
  show z47a ⟨x.1,za4 x.2,.nsl,[]⟩++z56 (z1c2 D)=[];rw[z3a4 D];rfl
theorem fresh_abs(D:z2f4):(z1c2 D).map z116=(D.map (·.2)).map fun t=>(za4 t,[]):=by
 unfold z1c2;rw[List.map_map,List.map_map];rfl
def Fresh(h h':AHeap)(ab:Nat)(az:List ArmT)(ts:List Nd):Prop:=Tch [] h h'∧ArmsAt h' ab az∧az.map z116=ts.map (fun t=>(za4 t,[]))∧h.next≤ab∧z56 az=[]∧(∀a∈az,h.next≤a.nb)∧z2f5 0 az
theorem fresh_of{h H:AHeap}{D:z2f4}{v:AV}{T:List zd7}{ts:List Nd}(g:GrowT z3c1 2 (z471 D) v T)(M:Abs.Mem [] h H (z4a3 D++T))(hD:D.map (·.2)=ts)(hne:ts≠[]):∃ab,v=.sl ab 0 (z1c2 D).length 2∧Fresh h H ab (z1c2 D) ts:=by
 rcases g.2 with⟨h1,_,_⟩|⟨_,c,h2,rfl⟩
 ·have : D = [] := List.map_eq_nil_iff.1 h1
  rw[this] at hD;exact absurd hD.symm hne
 refine⟨c,?_,M.tch,?_,?_,?_,z3a4 D,fun a ha=>?_,fun a ha=>?_⟩
 ·rw [h2]
  unfold z471 z1c2;rw[List.length_map,List.length_map]
 ·have mc := M.row (c, z3c1, (z471 D).flatten) (by simp)
  have ap:=M.apart;rw[List.map_append,List.nodup_append] at ap
  have nets:∀a∈z1c2 D,∃x∈D,a=⟨x.1,za4 x.2,.nsl,[]⟩:=fun a ha=>by
   obtain⟨x,hx,e⟩:=List.mem_map.1 ha;exact⟨x,hx,e.symm⟩
  refine⟨by rw[fresh_C];exact mc.1,mc.2.1,fun a ha=>?_,fun a ha=>?_,fun a ha=>?_,fun a ha=>?_,fun a ha=>?_,fun b=>if b=c then 0 else 1,if_pos rfl,fun a ha=>?_,fun i a ha b hb=>?_⟩
  ·obtain ⟨x, hx, rfl⟩ := nets a ha
   have:=M.row (x.1,TNet,netC (za4 x.2)) (List.mem_append_left _ (List.mem_map_of_mem hx));exact⟨z41e _,this.1,this.2.1⟩
  ·obtain ⟨x, hx, rfl⟩ := nets a ha
   exact .inl ⟨rfl,rfl,rfl⟩
  ·obtain ⟨x, hx, rfl⟩ := nets a ha
   exact fun _ h=>nomatch h
  ·obtain ⟨x, hx, rfl⟩ := nets a ha
   exact .nil
  ·obtain ⟨x, hx, rfl⟩ := nets a ha
   exact fun _ h=>nomatch h
  ·obtain ⟨x, hx, rfl⟩ := nets a ha
   refine if_neg fun e=>?_;exact ap.2.2 x.1 (List.mem_map_of_mem (List.mem_map_of_mem (f:=fun x:Nat×Nd=>((x.1,TNet,netC (za4 x.2)):zd7)) hx)) c (by simp) e
  ·obtain ⟨x, hx, rfl⟩ := nets a (List.mem_of_getElem? ha)
   exact nomatch hb
 ·rw[fresh_abs,hD]
 ·exact(M.row (c,z3c1,(z471 D).flatten) (by simp)).2.2.resolve_left (by simp)
 ·obtain ⟨x, hx, rfl⟩ := List.mem_map.1 ha
  exact(M.row (x.1,TNet,netC (za4 x.2)) (List.mem_append_left _ (List.mem_map_of_mem hx))).2.2.resolve_left (by simp)
 ·obtain ⟨x, hx, rfl⟩ := List.mem_map.1 ha
  exact⟨Nat.le_refl _,fun _ h=>nomatch h⟩
def May(n d:Nat)(ps:List (Int×Bytes))(ts:List Nd):Prop:=1≤ps.length∧ps.length≤8∧ArmsOk n d ps ts
section
variable {n d:Nat}{h:AHeap}{v:AV}{ps:List (Int×Bytes)}{ts:List Nd}{s:Bytes}
theorem z3b8(hn:1000<n)(k:May n d ps ts)(hx:h.ex=[])(kp:Slc h.next h 2 v (ps.map z419)):∃ab h' az,world n (d+2) 29 [v] h=some (.ret (.tup [.sl ab 0 az.length 2,.int .i64 0]),h')∧Fresh h h' ab az ts:=by
 obtain⟨k1,k2,k3⟩:=k
 suffices hK:Wp (world n (d+2) 29 [v] h) fun r h'=>∃ab az,r=.ret (.tup [.sl ab 0 az.length 2,.int .i64 0])∧Fresh h h' ab az ts by
  obtain⟨_,h',e,ab,az,rfl,k⟩:=hK;exact⟨ab,h',az,e,k⟩
 rw[z1e3];unfold zd0;have e1:=kp.len;rw[List.length_map] at e1;have q1:((ps.length:Int) == 0)=false:=by rw[beq_eq_false_iff_ne];omega
 have q2:decide ((ps.length:Int)>8)=false:=by rw[decide_eq_false_iff_not];omega
 refine Wp.obind e1 ?_;rw[q1];refine y1a fun t11 et=>?_;refine y1a fun j16 ej=>?_;subst et;refine y6 rfl ?_;refine Wp.obind e1 ?_;rw[q2];refine y1a fun t15 et=>?_;subst et;rw[ej];refine y6 rfl ?_;refine Wp.obind e1 ?_;refine y1a fun k15 ek=>?_;refine z20a hx kp k2 ps ts [] 0 n [] .nsl [] h k3 (by rw[List.append_nil];rfl) (by omega) rfl (GrowT.nil _ _) (Mem.nil [] h) fun D' v' T' H' fu' a1 a2 a3 a4=>?_
 obtain⟨ab,e5,fr⟩:=fresh_of (ts:=ts) a2 a3 a1 (fun e=>by
  have:=k3.len;rw[e] at this;have:0=ps.length:=this;omega)
 obtain⟨fu',rfl⟩:∃f,fu'=f+1:=⟨fu' - 1,by omega⟩;rw[zde];unfold z91
 ((with_reducible refine Wp.lett ?_))
 refine y6 (by rw[decide_eq_false_iff_not];omega) ?_;rw[ek,e5];exact Wp.ret ⟨ab,z1c2 D',rfl,fr⟩
theorem z46f(hn:18446744073709551620<n)(hd:1100≤d)(k:¬ ∃ts,May n d ps ts)(hx:h.ex=[])(kp:Slc h.next h 2 v (ps.map z419))(hbig:ps.length<1000000000000000000):∃h',world n (d+2) 29 [v] h=some (.ret (.tup [.nsl,.int .i64 2]),h')∧Tch [] h h':=by
 suffices hK:Wp (world n (d+2) 29 [v] h) fun r h'=>r=.ret (.tup [.nsl,.int .i64 2])∧Tch [] h h' by
  obtain⟨_,h',e,rfl,k⟩:=hK;exact⟨h',e,k⟩
 rw[z1e3];unfold zd0;have e1:=kp.len;rw[List.length_map] at e1;refine Wp.obind e1 ?_;refine y1a fun t11 et=>?_;refine y1a fun j16 ej=>?_
 by_cases h0:ps.length=0
 ·refine y7 (by rw [et, beq_iff_eq]; omega) ?_
  rw[ej];refine y7 rfl ?_;exact Wp.ret ⟨rfl,Tch.refl _ _⟩
 refine y6 (by rw[et,beq_eq_false_iff_ne];omega) ?_;refine Wp.obind e1 ?_;refine y1a fun t15 et2=>?_;rw[ej]
 by_cases h8:8<ps.length
 ·refine y7 (by rw [et2, decide_eq_true_eq]; omega) ?_
  exact Wp.ret ⟨rfl,Tch.refl _ _⟩
 refine y6 (by rw[et2,decide_eq_false_iff_not];omega) ?_;refine Wp.obind e1 ?_;refine y1a fun k15 ek=>?_
 rcases arms_or hn hd ps with⟨ts,hts⟩|⟨pre,ts,p,post,hps,h1,h2⟩
 ·exact absurd ⟨ts,by omega,by omega,hts⟩ k
 have hl:ps.length=pre.length+(post.length+1):=by rw[hps,List.length_append,List.length_cons]
 refine z20a hx kp (by omega) pre ts (p::post) 0 n [] .nsl [] h h1 hps (by omega) rfl (GrowT.nil _ _) (Mem.nil [] h) fun D' v' T' H' fu' a1 a2 a3 a4=>?_;obtain⟨fu',rfl⟩:∃f,fu'=f+1:=⟨fu' - 1,by omega⟩;rw[Nat.zero_add];obtain⟨b,hb,x1,y1⟩:=(kp.tch a3.tch (Nat.le_refl _) (by simp)).row (i:=pre.length) (by rw[List.length_map];omega)
 have hpi:ps[pre.length]'(by omega)=p:=by
  have:ps[pre.length]? =some p:=by rw[hps];simp
  rw[List.getElem?_eq_getElem (by omega)] at this;exact Option.some.inj this
 rw[List.getElem_map,hpi] at y1;have hxH:∀{h1:AHeap} {rs:List zd7},Abs.Mem [] h h1 rs→h1.ex=[]:=fun M=>by rw[M.ex,hx]
 rw[zde];unfold z91
 ((with_reducible refine Wp.lett ?_))
 refine y7 (by rw[decide_eq_true_eq];omega) ?_;refine Wp.obind x1 (Wp.obind y1 ?_);refine y9 a3 fun h2 M2=>?_;rw[ze];refine y10 M2 rfl rfl rfl fun h3 M3=>?_;refine y15 M3 rfl ?_
 rcases ‹z447 n d p› with hb|⟨t,_,_,ht⟩
 ·refine Wp.callN (hb h3 (hxH M3)) ?_
  refine Wp.obind (zf1 _ _) (Wp.obind (zf0 _ _ _) (Wp.obind (z4 _ _) ?_))
  ((with_reducible refine Wp.lett ?_))
  refine y1a fun j33 ej33=>?_;refine y7 rfl ?_;rw[ej33];refine y7 rfl ?_;exact Wp.ret ⟨rfl,M3.tch⟩
 ·obtain ⟨⟨nb, h4, e4, N4⟩, _⟩ := ht h3 (hxH M3)
  refine Wp.callN e4 ?_;have M4:=Mem.frame (xs:=[]) M3 N4;simp only[List.cons_append,List.nil_append] at M4;refine Wp.obind (zf1 _ _) (Wp.obind (zf0 _ _ _) (Wp.obind (z4 _ _) ?_))
  ((with_reducible refine Wp.lett ?_))
  refine y1a fun j33 ej33=>?_;refine y6 rfl ?_;refine y1f M4 rfl ?_;refine Wp.callN (ht h4 (hxH M4)).2 ?_;refine Wp.obind (z5 _) ?_;rw[ej33];refine y7 rfl ?_;exact Wp.ret ⟨rfl,M4.tch⟩
def zef:List z2f6→Bytes→Nat→Option (Nat×Nat×Nat)
 |_,[],_=>none
 |A,c::s,i=>match (z4a c.toNat i A).1 with
  |some z=>some (z.1,z.2,i+1)
  |none=>zef (z4a c.toNat i A).2 s (i+1)
noncomputable def z270:Option (Nat×Nat×Nat)→List AV
 |some z=>[.int .i64 (z.1:Int),.int .i64 (z.2.1:Int),.int .i64 (z.2.2:Int)]
 |none=>[.int .i64 0,.int .i64 0,.int .i64 0]
theorem hit_first{i:Nat}{z:Nat×Nat}:z45a 0 i (some z)=z270 (some (z.1,z.2,i+1)):=by
 show [AV.int .i64 ((0+z.1:Nat):Int),_,AV.int .i64 ((i:Int)+1)]=[AV.int .i64 (z.1:Int),_,AV.int .i64 ((i+1:Nat):Int)];rw[Nat.zero_add];rfl
theorem z1d3(r:Option (Nat×Nat×Nat)):(z270 r).length=3:=by cases r<;>rfl
theorem z1d2(r:Option (Nat×Nat×Nat)):(z270 r).all AV.one=true:=by cases r<;>rfl
theorem z31b{h0:AHeap}{ab L:Nat}{k20:AHeap→R}{Q:ARes→AHeap→Prop}(hn:18446744073709551616<n)(hs:s.length<2000000)(hL:L<1000):
  ∀(m i fu:Nat) (az:List ArmT) (H:AHeap),m<fu→i+m=s.length→az.length=L→ArmsAt H ab az→z2f5 i az→HasTz H→H.ex=[]→RowH H h.next z3c0 [.int .i64 0,.int .i64 0,.int .i64 0]→h.next<H.next→h.next≠ab→(∀a∈az,a.nb≠h.next)→h.next ∉ z56 az→h0.next≤h.next→h0.next≤ab→(∀b∈z56 az,h0.next≤b)→Tch [] h0 H→
   (∀H',Tch [] h0 H'→RowH H' h.next z3c0 [.int .i64 0,.int .i64 0,.int .i64 0]→zef (az.map z116) (s.drop i) i=none→Wp (k20 H') Q)→
   (∀H' z,Tch [] h0 H'→zef (az.map z116) (s.drop i) i=some z→Q (.ret (.tup [.agg (z270 (some z)),.bool true])) H')→
   Wp (zea (world n (d+5)) s h (.sl ab 0 L 2) k20 fu (i:Int) H) Q
 |_,_,0,_,_,hf,_,_,_,_,_,_,_,_,_,_,_,_,_,_,_,_,_=>by omega
 |0,i,fu+1,az,H,hf,hm,hl,k,hB,hT,hx,kh,hh,hab,hnb,hbl,g0,g1,g2,t0,hk,hq=>by
  have ll:=z5b s;rw[z133];unfold zd2
  repeat(first|(with_reducible refine Wp.lett ?_)|((with_reducible refine y6 ?_ ?_;apply decide_eq_false);omega))
  exact hk H t0 kh (by rw[List.drop_of_length_le (by omega)];rfl)
 |m+1,i,fu+1,az,H,hf,hm,hl,k,hB,hT,hx,kh,hh,hab,hnb,hbl,g0,g1,g2,t0,hk,hq=>by
  have ll:=z5b s;have hi:i<s.length:=by omega
  have hxs:=z231 hi;have el:(i:Int)+1=((i+1:Nat):Int):=by omega
  rw[List.drop_eq_getElem_cons hi] at hk hq;subst hl;obtain⟨h1,R',e1,t1,k1,b1,a1,n1,s1,_⟩:=z26e (n:=n) (d:=d) (at_:=i) hn (byte_lt hi) (by omega) hL k hB hT hx
  have hhS:h.next ∉ ab::z56 az:=fun hb=>by
   rcases List.mem_cons.1 hb with hb|hb
   ·exact hab hb
   ·exact hbl hb
  have kh1:=kh.tch t1 hh hhS;have hh1:h.next<h1.next:=Nat.lt_of_lt_of_le hh t1.1
  have t01:Tch [] h0 h1:=t0.trans' t1 fun b hb=>by
   rcases List.mem_cons.1 hb with hb|hb
   ·rw [hb]
    exact .inr g1
   ·exact .inr (g2 b hb)
  have hT1:=hT.tch t1 (k.tz hT);rw[z133];unfold zd2
  ((with_reducible refine Wp.lett ?_))
  refine y7 (by rw[decide_eq_true_eq];omega) ?_;refine Wp.obind hxs ?_;refine Wp.callN e1 ?_;refine Wp.obind (zf1 _ _) (Wp.obind (z11 _) (Wp.obind (zf0 _ _ _) (Wp.obind (z5 _) ?_)));refine y9 (Mem.nil [] h1) fun h2 M2=>?_;rw[ze];have hfl:∀r,(z45a 0 i r).length=3∧(z45a 0 i r).all AV.one=true:=fun r=>by cases r<;>exact⟨rfl,rfl⟩
  refine y10 M2 (hfl _).1 rfl (hfl _).2 fun h3 M3=>?_;have kh3:=kh1.tch M3.tch hh1 (by simp);cases hz:(z4a (s[i]).toNat i (az.map z116)).1 with
  |some z=>
   rw[hz] at M3;refine y7 rfl ?_;refine y15 M3 (hfl _).1 ?_;rw[ze];refine Wp.stAll kh3 (hfl _).1 rfl (hfl _).2 fun h4 k4 t4 n4=>?_;refine Wp.obind (y12 k4 (hfl _).1) ?_;rw[hit_first];refine Wp.ret (hq h4 _ ((t01.trans M3.tch).trans' t4 fun b hb=>by rw[List.mem_singleton.1 hb];exact .inr g0) ?_);show zef (az.map z116) (s[i]::s.drop (i+1)) i=_;rw[zef,hz]
  |none=>
   refine y6 rfl ?_
   (((with_reducible refine ye ?_ ?_ ?_);omega;omega))
   rw[el];have e9:zef (az.map z116) (s[i]::s.drop (i+1)) i=zef (R'.map z116) (s.drop (i+1)) (i+1):=by rw[zef,hz,a1]
   have hlR:R'.length=az.length:=by
    have:=congrArg List.length n1;rw[List.length_map,List.length_map] at this;exact this
   have k3:=k1.tch M3.tch (by simp) (fun _ _=>by simp) (fun _ _=>by simp);have hn1:H.next≤h1.next:=t1.1;have hnx:h0.next≤H.next:=t0.1;refine z31b hn hs hL m (i+1) fu R' h3 (by omega) (by omega) hlR k3 b1 (hT1.tch M3.tch (by simp)) (by rw[M3.ex,t1.2.1,hx]) kh3 (Nat.lt_of_lt_of_le hh1 M3.tch.1) hab (fun y hy e=>?_) (fun hb=>?_) g0 g1 (fun b hb=>?_) (t01.trans M3.tch) (fun H' t' q' z'=>hk H' t' q' (by rw[e9];exact z')) (fun H' z t' z'=>hq H' z t' (by rw[e9];exact z'))
   ·have : y.nb ∈ R'.map (·.nb) := List.mem_map_of_mem hy
    rw[n1] at this;obtain⟨w,hw,e2⟩:=List.mem_map.1 this;exact hnb w hw (e2.trans e)
   ·rcases s1 _ hb with hb | hb
    ·exact hbl hb
    ·omega
   ·rcases s1 _ hb with hb | hb
    ·exact g2 b hb
    ·omega
theorem z160(hn:18446744073709551620<n)(k:May n (d+3) ps ts)(hx:h.ex=[])(hT:HasTz h)(kp:Slc h.next h 2 v (ps.map z419))(hs:s.length<2000000):
  ∃h',world n (d+6) 14 [v,strA s] h=some (.ret (.tup [.agg (z270 (zef (ts.map fun t=>(za4 t,[])) s 0)),.bool (zef (ts.map fun t=>(za4 t,[])) s 0).isSome]),h')∧Tch [] h h':=by
 suffices hK:Wp (world n (d+6) 14 [v,strA s] h) fun r h'=>r=.ret (.tup [.agg (z270 (zef (ts.map fun t=>(za4 t,[])) s 0)),.bool (zef (ts.map fun t=>(za4 t,[])) s 0).isSome])∧Tch [] h h' by
  obtain⟨_,h',e,rfl,k⟩:=hK;exact⟨h',e,k⟩
 rw[z211];unfold zf8;refine y9 (Mem.nil [] h) fun h2 M2=>?_;have t2:=M2.tch;have hx2:h2.ex=[]:=by rw[M2.ex,hx]
 have kp2:Slc h2.next h2 2 v (ps.map z419):=kp.keep t2.1 fun b o hb ho=>by rw[t2.2.2 b hb (by simp)];exact ho
 obtain⟨ab,h3,az,e3,fr⟩:=z3b8 (n:=n) (d:=d+3) (by omega) k hx2 kp2;refine Wp.callN e3 ?_;obtain⟨t3,ka,ha,hab,hblk,hnbs,hB⟩:=fr;have hhl:=M2.at0.2.1
 have hlen:az.length=ts.length:=by
  have:=congrArg List.length ha;rw[List.length_map,List.length_map] at this;exact this
 have hts:=k.2.2.len;have h8:=k.2.1;refine Wp.obind (zf1 _ _) (Wp.obind (zf0 _ _ _) (Wp.obind (z4 _ _) ?_))
 ((with_reducible refine Wp.lett ?_))
 refine y6 rfl ?_;refine y1a fun k20 ek=>?_;have n2:=t2.1;have n3:=t3.1;refine z31b (n:=n) (d:=d) (h:=h) (h0:=h) (s:=s) (by omega) hs (L:=az.length) (by omega) s.length 0 n az h3 (by omega) (Nat.zero_add _) rfl ka hB (hT.tch (t2.trans t3) (by simp)) (by rw[t3.2.1,hx2]) (M2.at0.1.tch t3 hhl (by simp)) (by omega) (by omega) (fun a ha=>by have:=hnbs a ha;omega) (by rw[hblk];simp) (Nat.le_refl _) (by omega) (by rw[hblk];simp) (t2.trans t3) (fun H' t' q' z'=>?_) (fun H' z t' z'=>?_)
 ·rw [ha, List.drop_zero] at z'
  rw[ek,ze,z'];refine Wp.stAll q' rfl rfl rfl fun h4 k4 t4 n4=>?_;refine Wp.obind (y12 k4 rfl) ?_;exact Wp.ret ⟨rfl,t'.trans' t4 fun b hb=>by rw[List.mem_singleton.1 hb];exact .inr (Nat.le_refl _)⟩
 ·rw [ha, List.drop_zero] at z'
  rw[z'];exact⟨rfl,t'⟩
theorem first_bad(hn:18446744073709551620<n)(hd:1100≤d)(k:¬ ∃ts,May n (d+3) ps ts)(hx:h.ex=[])(kp:Slc h.next h 2 v (ps.map z419))(hbig:ps.length<1000000000000000000):
  ∃h',world n (d+6) 14 [v,strA s] h=some (.ret (.tup [.agg (z270 none),.bool false]),h')∧Tch [] h h':=by
 suffices hK:Wp (world n (d+6) 14 [v,strA s] h) fun r h'=>r=.ret (.tup [.agg (z270 none),.bool false])∧Tch [] h h' by
  obtain⟨_,h',e,rfl,k⟩:=hK;exact⟨h',e,k⟩
 rw[z211];unfold zf8;refine y9 (Mem.nil [] h) fun h2 M2=>?_;have t2:=M2.tch;have kp2:Slc h2.next h2 2 v (ps.map z419):=kp.keep t2.1 fun b o hb ho=>by rw[t2.2.2 b hb (by simp)];exact ho
 obtain⟨h3,e3,t3⟩:=z46f (n:=n) (d:=d+3) hn (by omega) k (by rw[M2.ex,hx]) kp2 hbig;refine Wp.callN e3 ?_;have M3:=M2.keep t3;refine Wp.obind (zf1 _ _) (Wp.obind (zf0 _ _ _) (Wp.obind (z4 _ _) ?_))
 ((with_reducible refine Wp.lett ?_))
 refine y7 rfl ?_;rw[ze];refine y10 M3 rfl rfl rfl fun h4 M4=>?_;refine y15 M4 rfl ?_;exact Wp.ret ⟨rfl,M4.tch⟩
end
abbrev TBy:Nat:=76
theorem bldSlBy(h:AHeap)(v:Int):z16e Tryd.prog h TBy 1 [(0,.int .u8 v)]=zcb h 5 [.int .u8 v] 1 1:=by kernel_rfl
theorem fitBy:fitB Tryd.prog 5 1=true:=by kernel_rfl
def BufAt(h:AHeap)(v:AV)(u:Bytes):Prop:=(v=.nsl∧u=[])∨∃c rest,v=.sl c 0 u.length 1∧RowH h c 5 (z7b u++rest)∧c<h.next
section
variable {h h':AHeap}{v:AV}{u:Bytes}{b1 c0:Nat}
theorem BufAt.tch{S:List Nat}(k:BufAt h v u)(t:Tch S h h')(hd:∀b∈zd6 v,b ∉ S):BufAt h' v u:=by
 rcases k with k|⟨c,rest,rfl,h2,h3⟩
 ·exact .inl k
 ·exact .inr ⟨c,rest,rfl,h2.tch t h3 (hd c (List.mem_singleton.2 rfl)),Nat.lt_of_lt_of_le h3 t.1⟩
theorem BufAt.lt(k:BufAt h v u):∀b∈zd6 v,b<h.next:=by
 rcases k with⟨rfl,_⟩|⟨c,rest,rfl,_,h3⟩
 ·exact fun b hb=>nomatch hb
 ·intro b hb
  rw[List.mem_singleton.1 hb];exact h3
theorem BufAt.len(k:BufAt h v u):z17d v=some (u.length:Int):=by
 rcases k with⟨rfl,rfl⟩|⟨c,rest,rfl,_⟩<;>rfl
theorem BufAt.push(k:BufAt h v u)(kr:RowH h b1 5 [.int .u8 (c0:Int)])(hc0:c0<256)(hm:u.length<20000000)(hx:h.ex=[]):
  ∃h',z7e Tryd.prog h TBy TBy v (.sl b1 0 1 1)=some (.val (.sl h.next 0 (u.length+1) 1),h')∧BufAt h' (.sl h.next 0 (u.length+1) 1) (u++[UInt8.ofNat c0])∧h.next<h'.next∧Tch (zd6 v) h h':=by
 have he:Abs.elemOf Tryd.prog TBy=some 5:=by kernel_rfl
 have hu:z26c Tryd.prog TBy=true:=by kernel_rfl
 have hsz:Tryd.prog.cellsOf 5=1:=by kernel_rfl
 have hex:zbb 5 h.ex=false:=by rw[hx];rfl
 have eb:z7b (u++[UInt8.ofNat c0])=z7b u++[.int .u8 (c0:Int)]:=by
  rw[z23c];show z7b u++[AV.int .u8 ((UInt8.ofNat c0).toNat:Int)]=_;rw[UInt8.toNat_ofNat_of_lt' hc0]
 have el:u.length+1=(u++[UInt8.ofNat c0]).length:=by rw[List.length_append,List.length_singleton]
 rcases k with⟨rfl,rfl⟩|⟨c,rest,rfl,h2,h3⟩
 ·have a1 := z266 (P := Tryd.prog) (h := h) (t := TBy) (u := TBy) (n := 0) (x := .sl b1 0 1 1) he hu hsz rfl (z1c3 kr rfl) (z11f fitBy (by omega) (by omega)) rfl hex
  refine⟨_,a1,.inr ⟨h.next,[],by rw[el],?_,Nat.lt_succ_self _⟩,Nat.lt_succ_self _,Tch.newH _ _ _ _⟩;rw[eb,List.append_nil];exact RowH.new _ _ _
 ·have hcl := ze0 u
  have a1:=z20b (P:=Tryd.prog) (h:=h) (t:=TBy) (u:=TBy) (b:=c) (o:=0) (m:=u.length) (n:=0) (x:=.sl b1 0 1 1) (cs:=z7b u) he hu hsz rfl (z1c3 kr rfl) (z11f fitBy (by omega) (by omega)) rfl hex (by
   have:=h2.part (o:=0) (n:=(z7b u).length) (by rw[List.length_append];omega);rw[List.drop_zero,List.take_left' rfl] at this;rw[Nat.mul_one, ←hcl];exact this) h2.type
  refine⟨_,a1,.inr ⟨h.next,[],by rw[el],?_,Nat.lt_succ_self _⟩,Nat.lt_succ_self _,?_⟩
  ·rw [eb, List.append_nil]
   exact RowH.new (h.put c .dead) _ _
  ·exact(Tch.put (S:=[c]) (.inl (List.mem_singleton.2 rfl)) _).trans (Tch.newH _ _ _ _)
end
theorem z3b2{t e:TypeId}{h:AHeap}{c m sz j:Nat}{l:List AV}(he:Abs.elemOf Tryd.prog t=some e)(hi:(Tryd.prog.info? e).isSome=true)(hsz:Tryd.prog.cellsOf e=sz)(k:RowH h c e l)(hm:m*sz≤l.length)(hj:j≤m)(hone:((l.drop (j*sz)).take ((m - j)*sz)).all AV.one=true):
  ∃h',z223 Tryd.prog h t (.sl c 0 m sz) (.sl c (0+j*sz) (m - j) sz)=some (.val (.int .i64 ((m - j:Nat):Int)),h')∧RowH h' c e (laid l 0 ((l.drop (j*sz)).take ((m - j)*sz)))∧h'.next=h.next∧Tch [c] h h':=by
 have hlen:((l.drop (j*sz)).take ((m - j)*sz)).length=(m - j)*sz:=by
  rw[List.length_take,List.length_drop];have:(m - j)*sz=m*sz - j*sz:=Nat.sub_mul _ _ _;clear he hi hsz;omega
 have hle:(m - j)*sz≤m*sz:=Nat.mul_le_mul_right _ (Nat.sub_le _ _)
 obtain⟨h',e1,e2,e3,e4,e5⟩:=k.put (vs:=(l.drop (j*sz)).take ((m - j)*sz)) (o:=0) (by
  rw[hlen,Nat.zero_add];exact Nat.le_trans hle hm) hone
 refine⟨h',?_,e2,e3,z2fc e3 e4 e5 (.inl (List.mem_singleton.2 rfl))⟩
 have hp:=k.part (o:=0+j*sz) (n:=(m - j)*sz) (by
  have:(m - j)*sz+j*sz=m*sz:=by rw[←Nat.add_mul,Nat.sub_add_cancel hj]
  clear he hi hsz;omega)
 rw[Nat.zero_add] at hp;have hmin:Nat.min (m - j) m=m - j:=Nat.min_eq_left (Nat.sub_le _ _);unfold z223;rw[he,show z2de (.sl c 0 m sz)=some m from rfl,show z2de (.sl c (0+j*sz) (m - j) sz)=some (m - j) from rfl];dsimp only;rw[hsz,hmin,z234 (Nat.le_refl _),Nat.zero_add,hp];dsimp only;rw[if_pos ⟨rfl,hi⟩,e1]
theorem copy_none{t e:TypeId}{h:AHeap}{c m sz:Nat}{l:List AV}(he:Abs.elemOf Tryd.prog t=some e)(hi:(Tryd.prog.info? e).isSome=true)(hsz:Tryd.prog.cellsOf e=sz)(k:RowH h c e l):
  ∃h',z223 Tryd.prog h t (.sl c 0 m sz) .esl=some (.val (.int .i64 ((0:Nat):Int)),h')∧RowH h' c e (laid l 0 [])∧h'.next=h.next∧Tch [c] h h':=by
 obtain⟨h',e1,e2,e3,e4,e5⟩:=k.put (vs:=[]) (o:=0) (by simp) rfl;refine⟨h',?_,e2,e3,z2fc e3 e4 e5 (.inl (List.mem_singleton.2 rfl))⟩;have hmin:Nat.min 0 m=0:=Nat.zero_min _;unfold z223;rw[he,show z2de (.sl c 0 m sz)=some m from rfl,show z2de .esl=some 0 from rfl];dsimp only;rw[hmin,show z1e8 h (Tryd.prog.cellsOf e) 0 .esl=some [] from rfl];dsimp only;rw[if_pos ⟨hsz.symm,hi⟩,e1]
theorem z368:∀l:List z19b,(z9a l).all AV.one=true
 |[]=>rfl
 |x::l=>by
  rw[z9a,List.all_append,z368 l];rfl
theorem z2fa:∀(l:List z19b) (j:Nat),(z9a l).drop (2*j)=z9a (l.drop j)
 |l,0=>rfl
 |[],j+1=>by
  rw[List.drop_nil];exact List.drop_nil
 |x::l,j+1=>by
  rw[z9a,List.drop_succ_cons, ←z2fa l j,show 2*(j+1)=(z2fb x).length+2*j from Nat.add_comm _ _,List.drop_append,List.drop_of_length_le (Nat.le_add_right _ _),Nat.add_sub_cancel_left];rfl
theorem z448{l:List z19b}{rest:List AV}{i:Nat}(hi:i<l.length):(z9a l++rest)[0+i*2+1]? =some (.int .i64 ((l[i]).2.2:Int)):=by
 have e:z9a l=z9a (l.take i)++(z2fb l[i]++z9a (l.drop (i+1))):=by
  have:=z170 (l.take i) (l.drop i);rw[List.take_append_drop] at this;rw[this,List.drop_eq_getElem_cons hi,z9a]
 have hl:(z9a (l.take i)).length=2*i:=by rw[z9d,List.length_take];omega
 rw[e,List.append_assoc,List.getElem?_append_right (by omega),show 0+i*2+1 - (z9a (l.take i)).length=1 by omega];rfl
def z239(f:Nat)(l:List z19b):List z19b:=l.dropWhile fun x=>decide (x.2.2<f)
theorem z357(f:Nat):∀l:List z19b,∃j,j≤l.length∧z239 f l=l.drop j
 |[]=>⟨0,Nat.le_refl _,rfl⟩
 |x::l=>by
  unfold z239;rw[List.dropWhile_cons]
  split
  ·obtain ⟨j, h1, h2⟩ := z357 f l
   exact⟨j+1,by rw[List.length_cons];omega,by rw[List.drop_succ_cons];exact h2⟩
  ·exact⟨0,Nat.zero_le _,rfl⟩
section
variable {N:Nt}{n d nb ab o f:Nat}{h:AHeap}{cells:List AV}{v:AV}{l:List z19b}{Q:ARes→AHeap→Prop}{k4:Int→AHeap→R}
theorem z2c6{c:Nat}{rest:List AV}(ka:RowH h ab z3c1 cells)(hv:cells[o+1]? =some (.sl c 0 l.length 2))(kc:RowH h c z20c (z9a l++rest))(hl:l.length<20000000)(hx:∀x∈l,x.2.2<1000000000000):
  ∀(todo:List z19b) (i fu:Nat),l.drop i=todo→i≤l.length→todo.length<fu→(∀j,j≤l.length→z239 f todo=l.drop j→Wp (k4 (j:Int) h) Q)→Wp (z8b (.ptr ab o) (f:Int) k4 fu (i:Int) h) Q
 |_,_,0,_,_,hf,_=>by omega
 |[],i,fu+1,hd,hi,hf,hk=>by
  have hli:=drop_nil hd;rw[zd1];unfold z78;have cv:=y5 ka hv;have e1:z17d (.sl c 0 l.length 2)=some (l.length:Int):=rfl
  repeat(first|(with_reducible first|refine y8 (fun _ _=>?_)|refine Wp.lett ?_|(apply Wp.obind;first|exact z10 _ _|exact cv|exact e1|exact z8 _ _ _))|((with_reducible refine y6 ?_ ?_);first|(with_reducible rfl)|((with_reducible apply decide_eq_false);omega))|(with_reducible refine yd (by assumption) ?_))
  exact hk i hi (by rw[hd];rfl)
 |x::todo,i,fu+1,hd,hi,hf,hk=>by
  obtain⟨hli,hxi,hd2⟩:=z17a hd;rw[List.length_cons] at hf;have cv:=y5 ka hv;have e1:z17d (.sl c 0 l.length 2)=some (l.length:Int):=rfl;have e2:=z25e (b:=c) hli;have e3:=y5 kc (z448 (rest:=rest) hli);have hxb:=hx _ (List.getElem_mem hli);rw[hxi] at e3 hxb;have el:(i:Int)+1=((i+1:Nat):Int):=by omega
  rw[zd1];unfold z78
  by_cases hlt:x.2.2<f
  ·repeat (first | (with_reducible refine y8 (fun _ _ => ?_)) | ((with_reducible refine ye ?_ ?_ ?_); omega; omega) | (with_reducible first | refine Wp.lett ?_ | (apply Wp.obind; first | exact z10 _ _ | exact cv | exact e1 | exact e2 | exact e3 | exact z4 _ _ | exact z8 _ _ _)) | ((with_reducible refine y7 ?_ ?_; apply decide_eq_true); omega) | (with_reducible refine yd (by assumption) ?_))
   rw[el];refine z2c6 ka hv kc hl hx todo (i+1) fu hd2 (by omega) (by omega) fun j hj e=>hk j hj ?_;rw[←e];unfold z239;rw[List.dropWhile_cons,if_pos (decide_eq_true hlt)]
  ·repeat (first | (with_reducible first | refine y8 (fun _ _ => ?_) | refine Wp.lett ?_ | (apply Wp.obind; first | exact z10 _ _ | exact cv | exact e1 | exact e2 | exact e3 | exact z4 _ _ | exact z8 _ _ _)) | ((with_reducible refine y7 ?_ ?_; apply decide_eq_true); omega) | ((with_reducible refine y6 ?_ ?_; apply decide_eq_false); omega) | (with_reducible refine yd (by assumption) ?_))
   refine hk i hi ?_;rw[hd];unfold z239;rw[List.dropWhile_cons,if_neg (by rw[decide_eq_true_eq];exact hlt)]
theorem forget_r(k:ArmAt h ab o nb N cells v l)(hvn:zd6 v≠[])(hne:ab≠nb)(hl:l.length<20000000)(hx:∀x∈l,x.2.2<1000000000000)(hn:20000000<n):
  ∃v' h',world n (d+2) 52 [.ptr ab o,.int .i64 (f:Int)] h=some (.ret (.tup []),h')∧ArmAt h' ab o nb N (cells.set (o+1) v') v' (z239 f l)∧zd6 v'=zd6 v∧h'.next=h.next∧Tch (ab::zd6 v) h h':=by
 obtain⟨k1,k2,k3,kv,k5,k6,k7,k8,k9,k10,k11,k12,k13,k14⟩:=id k
 have hlen:o+1<cells.length:=by
  apply Nat.lt_of_not_le;intro hh;rw[List.getElem?_eq_none hh] at kv
  cases kv
 suffices hK:Wp (world n (d+2) 52 [.ptr ab o,.int .i64 (f:Int)] h) fun r h'=>∃v',r=.ret (.tup [])∧ArmAt h' ab o nb N (cells.set (o+1) v') v' (z239 f l)∧zd6 v'=zd6 v∧h'.next=h.next∧Tch (ab::zd6 v) h h' by
  obtain⟨_,h',e,v',rfl,k⟩:=hK;exact⟨v',h',e,k⟩
 rw[z210];unfold z92;refine y1a fun k4 ek=>?_
 rcases k5 with⟨rfl,_⟩|⟨c,rest,rfl,hA,kc,hc⟩
 ·exact absurd rfl hvn
 have he:Abs.elemOf Tryd.prog z1a9=some z20c:=by kernel_rfl
 have hi:(Tryd.prog.info? z20c).isSome=true:=by kernel_rfl
 have hsz:Tryd.prog.cellsOf z20c=2:=by kernel_rfl
 have hac:ab≠c:=fun e=>k11 (e▸List.mem_singleton.2 rfl);have cv:=y5 k1 kv;refine z2c6 k1 kv kc hl hx l 0 n rfl (Nat.zero_le _) (by omega) fun j hj ej=>?_;rw[ek,ej];have hwl:=z9d l
 -- the copy, whatever the rest is
 have fin:∀{h2:AHeap} {l2:List AV},RowH h2 c z20c l2→l2.take (2*(l.length - j))=z9a (l.drop j)→2*l.length≤l2.length→h2.next=h.next→Tch [c] h h2→Wp (callN (world n (d+1) 53 [.ptr ab o,.int .i64 ((l.length - j:Nat):Int)] h2) fun _ h_17=>some (.ret (.tup []),h_17)) fun r h'=>∃v',r=.ret (.tup [])∧ArmAt h' ab o nb N (cells.set (o+1) v') v' (l.drop j)∧zd6 v'=zd6 (.sl c 0 l.length 2)∧h'.next=h.next∧Tch (ab::zd6 (.sl c 0 l.length 2)) h h':=by
  intro h2 l2 kc2 e2 hl2 n2 t2;have ka2:=k1.tch t2 k2 (by simpa using hac);have kv2:VAt h2 (.sl c 0 l.length 2) (l2.take (2*l.length)) l.length:=.inr ⟨c,l2.drop (2*l.length),rfl,by rw[List.length_take];omega,by rw[List.take_append_drop];exact kc2,by omega⟩;obtain⟨v',h3,e3,q1,q2,q3,q4,q5⟩:=z264 (n:=n) (d:=d) (live:=l.length - j) ka2 kv (by omega) kv2 (by omega) k11;refine Wp.callN e3 ?_;rw[List.take_take,Nat.min_eq_left (by omega),e2] at q2;have tt:Tch (ab::zd6 (.sl c 0 l.length 2)) h h3:=(t2.mono fun b hb=>.inl (List.mem_cons_of_mem _ hb)).trans q5;have hdl:(l.drop j).length=l.length - j:=List.length_drop
  have hsub:∀b∈(l.drop j).map (·.1),b∈l.map (·.1):=fun b hb=>by
   obtain⟨x,hx,e⟩:=List.mem_map.1 hb;exact List.mem_map.2 ⟨x,List.mem_of_mem_drop hx,e⟩
  have nS:∀b∈l.map (·.1),b ∉ ab::zd6 (.sl c 0 l.length 2):=fun b hb hm=>by
   rcases List.mem_cons.1 hm with hm|hm
   ·exact k12 (hm▸hb)
   ·exact k10 b hm hb
  refine Wp.ret ⟨v',rfl,⟨q1,by omega,?_,List.getElem?_set_self hlen,by rw[hdl];exact q2,?_,?_,by omega,?_,fun b hb hm=>?_,?_,fun hb=>k12 (hsub _ hb),?_,fun hb=>k14 (hsub _ hb)⟩,q3,q4.trans n2,tt⟩
  ·rw [List.getElem?_set_ne (by omega)]
   exact k3
  ·exact RunsAt.tch (fun x hx=>k6 x (List.mem_of_mem_drop hx)) tt fun x hx=>nS _ (hsub _ (List.mem_map_of_mem hx))
  ·refine k7.tch tt k8 fun hm => ?_
   rcases List.mem_cons.1 hm with hm|hm
   ·exact hne hm.symm
   ·exact k13 hm
  ·exact k9.sublist ((List.drop_sublist j l).map _)
  ·rw [q3] at hb
   exact k10 b hb (hsub _ hm)
  ·rw [q3]
   exact k11
  ·rw [q3]
   exact k13
 have e1:((z9a l++rest).drop (j*2)).take ((l.length - j)*2)=z9a (l.drop j):=by
  rw[List.drop_append_of_le_length (by omega),show j*2=2*j from Nat.mul_comm _ _,z2fa];exact List.take_left' (by rw[z9d,List.length_drop];omega)
 by_cases hje:j=l.length∧0<j
 ·obtain ⟨rfl, h0⟩ := hje
  have s1:=z377 (P:=Tryd.prog) (h:=h) (b:=c) (o:=0) (k1:=.i64) he hi hsz h0;obtain⟨h2,c2,q1,q2,q3⟩:=copy_none (m:=l.length) he hi hsz kc;refine Wp.obind (z10 _ _) (Wp.obind (z8 _ _ _) (Wp.obind cv (Wp.obind (z10 _ _) (Wp.obind (z8 _ _ _) (Wp.obind cv (Wp.outK s1 (Wp.outK c2 (Wp.obind (z4 _ _) ?_))))))))
  have:=fin q1 (by
   rw[Nat.sub_self,List.drop_length];rfl) (by
   show _≤(laid _ 0 []).length;rw[z11d (by simp),List.length_append];omega) q2 q3
  rw[Nat.sub_self] at this;exact this
 ·have s1 := z24b (P := Tryd.prog) (h := h) (b := c) (o := 0) (m := l.length) (l1 := j) (k1 := .i64) he hi hsz hj hje
  obtain⟨h2,c2,q1,q2,q3⟩:=z3b2 (m:=l.length) (j:=j) he hi hsz kc (by rw[List.length_append];omega) hj (by rw[e1];exact z368 _);refine Wp.obind (z10 _ _) (Wp.obind (z8 _ _ _) (Wp.obind cv (Wp.obind (z10 _ _) (Wp.obind (z8 _ _ _) (Wp.obind cv (Wp.outK s1 (Wp.outK c2 (Wp.obind (z4 _ _) ?_))))))));rw[e1] at q1;have hdl:(z9a (l.drop j)).length=2*(l.length - j):=by rw[z9d,List.length_drop]
  refine fin q1 ?_ ?_ q2 q3
  ·unfold laid
   rw[List.take_zero,List.nil_append];exact List.take_left' hdl
  ·rw [z11d (by rw [List.length_append]; omega), List.length_append]
   omega
end
abbrev TMat:Nat:=78
def z3ea(f:Nat)(a:z2f6):z2f6:=(a.1,a.2.dropWhile fun x=>decide (x.2<f))
def z3ae(a:z2f6):z2f6:=(a.1,[])
theorem dropW_W(f:Nat):∀l:List z19b,(z239 f l).map (·.2)=(l.map (·.2)).dropWhile fun x=>decide (x.2<f)
 |[]=>rfl
 |x::l=>by
  unfold z239;rw[List.map_cons,List.dropWhile_cons,List.dropWhile_cons]
  by_cases h:x.2.2<f
  ·rw [if_pos (decide_eq_true h), if_pos (decide_eq_true h)]
   exact dropW_W f l
  ·rw[if_neg (by rw[decide_eq_true_eq];exact h),if_neg (by rw[decide_eq_true_eq];exact h),List.map_cons]
def Sub1(H H':AHeap)(ab:Nat)(R R':List ArmT)(F:z2f6→z2f6)(P:List ArmT):Prop:=Tch (ab::z56 (P++R)) H H'∧H'.next=H.next∧ArmsAt H' ab (P++R')∧R'.map z116=(R.map z116).map F∧R'.map (·.nb)=R.map (·.nb)∧(∀b∈z56 (P++R'),b∈z56 (P++R))∧(∀B,z2f5 B R→z2f5 B R')∧R'.map (fun a=>zd6 a.v)=R.map (fun a=>zd6 a.v)
section
variable {H H1 H':AHeap}{ab:Nat}{P R R':List ArmT}{a:ArmT}{v':AV}{l':List z19b}{F:z2f6→z2f6}
theorem Sub1.nil(k:ArmsAt H ab (P++[])):Sub1 H H ab [] [] F P:=⟨Tch.refl _ _,rfl,k,rfl,rfl,fun _ h=>h,fun _ h=>h,rfl⟩
theorem z3d9(k:ArmsAt H ab (P++a::R))(k1:ArmAt H1 ab (0+P.length*2) a.nb a.N ((z113 (P++a::R)).set (0+P.length*2+1) v') v' l')(hb:zd6 v'=zd6 a.v)(hl:∀x∈l',x∈a.l)(t:Tch (ab::zd6 a.v) H H1):ArmsAt H1 ab (P++{a with v:=v',l:=l'}::R)∧(∀b∈z56 (P++{a with v:=v',l:=l'}::R),b∈z56 (P++a::R))∧Tch (ab::z56 (P++a::R)) H H1:=by
 have hs:∀b∈l'.map (·.1),b∈a.l.map (·.1):=fun b hb=>by
  obtain⟨x,hx,e⟩:=List.mem_map.1 hb;exact List.mem_map.2 ⟨x,hl x hx,e⟩
 refine⟨k.step k1 (fun b h=>.inl (hb▸h)) (fun b h=>.inl (hs b h)) (t.mono fun b hb=>.inl ?_),fun b h=>?_,t.mono fun b hb=>.inl ?_⟩
 ·rcases List.mem_cons.1 hb with hb | hb
  ·rw [hb]
   exact List.mem_cons_self
  ·exact List.mem_cons_of_mem _ (List.mem_append_left _ hb)
 ·obtain ⟨y, hy, h⟩ := z6a.1 h
  rcases List.mem_append.1 hy with hy|hy
  ·exact z6a.2 ⟨y,List.mem_append_left _ hy,h⟩
  rcases List.mem_cons.1 hy with rfl|hy
  ·refine z6a.2 ⟨a, by simp, ?_⟩
   rcases List.mem_append.1 h with h|h
   ·exact List.mem_append_left _ (hb▸h)
   ·exact List.mem_append_right _ (hs b h)
  ·exact z6a.2 ⟨y,by simp[hy],h⟩
 ·rcases List.mem_cons.1 hb with hb | hb
  ·rw [hb]
   exact List.mem_cons_self
  ·exact List.mem_cons_of_mem _ (z6a.2 ⟨a,by simp,List.mem_append_left _ hb⟩)
theorem Sub1.cons(k:ArmsAt H ab (P++a::R))(k1:ArmAt H1 ab (0+P.length*2) a.nb a.N ((z113 (P++a::R)).set (0+P.length*2+1) v') v' l')(hb:zd6 v'=zd6 a.v)(hl:∀x∈l',x∈a.l)(hll:l'.length≤a.l.length)(hF:(a.N,l'.map (·.2))=F (z116 a))(t:Tch (ab::zd6 a.v) H H1)(hn:H1.next=H.next)(S:Sub1 H1 H' ab R R' F (P++[{a with v:=v',l:=l'}])):
  Sub1 H H' ab (a::R) ({a with v:=v',l:=l'}::R') F P:=by
 obtain⟨_,q2,q3⟩:=z3d9 k k1 hb hl t;obtain⟨s1,s2,s3,s4,s5,s6,s7,s8⟩:=S;have re:∀X:List ArmT,(P++[{a with v:=v',l:=l'}])++X=P++{a with v:=v',l:=l'}::X:=fun X=>by simp
 rw[re] at s1 s3 s6;rw[re] at s6;refine⟨q3.trans (s1.mono fun b hb=>.inl ?_),s2.trans hn,s3,?_,?_,fun b hb=>q2 b (s6 b hb),fun B hB y hy=>?_,?_⟩
 ·rcases List.mem_cons.1 hb with hb | hb
  ·rw [hb]
   exact List.mem_cons_self
  ·exact List.mem_cons_of_mem _ (q2 b hb)
 ·rw [List.map_cons, List.map_cons, List.map_cons, s4, ← hF]
  rfl
 ·rw[List.map_cons,List.map_cons,s5]
 ·rcases List.mem_cons.1 hy with rfl | hy
  ·have := hB a List.mem_cons_self
   exact⟨Nat.le_trans hll this.1,fun x hx=>this.2 x (hl x hx)⟩
  ·exact s7 B (fun y hy=>hB y (List.mem_cons_of_mem _ hy)) y hy
 ·rw [List.map_cons, List.map_cons, s8]
  show zd6 v'::_=_;rw[hb]
end
section
variable {n d mb ab L f:Nat}{Q:ARes→AHeap→Prop}{k:AHeap→R}{bv:AV}
theorem z39c(hn:20000000<n)(hL:L<1000):
  ∀(R P:List ArmT) (fu:Nat) (H:AHeap),R.length<fu→P.length+R.length=L→ArmsAt H ab (P++R)→RowH H mb TMat [.sl ab 0 L 2,bv,.int .i64 (f:Int)]→mb<H.next→mb ∉ ab::z56 (P++R)→z2f5 2500001 R→(∀a∈R,zd6 a.v≠[])→
   (∀(H':AHeap) (R':List ArmT),Sub1 H H' ab R R' (z3ea f) P→Wp (k H') Q)→Wp (z6b (world n (d+2)) (.ptr mb 0) (L:Int) k fu (P.length:Int) H) Q
 |_,_,0,_,hf,_,_,_,_,_,_,_,_=>by omega
 |[],P,fu+1,H,hf,hPL,ka,km,hm,hmd,hB,hne,hk=>by
  have hPl:P.length=L:=hPL;rw[zaf];unfold z5e
  ((with_reducible refine Wp.lett ?_))
  refine y6 (by rw[decide_eq_false_iff_not];omega) ?_;exact hk H [] (Sub1.nil ka)
 |a::R,P,fu+1,H,hf,hPL,ka,km,hm,hmd,hB,hne,hk=>by
  rw[List.length_cons] at hf hPL;have hPl:P.length<L:=by omega
  have hBa:=hB a List.mem_cons_self;obtain⟨k1,hab⟩:=ka.at;have c0:=y5 km (show ([.sl ab 0 L 2,bv,.int .i64 (f:Int)]:List AV)[0]? =some (.sl ab 0 L 2) from rfl);have c2:=y5 km (show ([.sl ab 0 L 2,bv,.int .i64 (f:Int)]:List AV)[2]? =some (.int .i64 (f:Int)) from rfl)
  obtain⟨v',H1,e1,q1,q2,q3,q4⟩:=forget_r (n:=n) (d:=d) (f:=f) k1 (hne a List.mem_cons_self) hab (by omega) (fun x hx=>by
   have:=hBa.2 x hx;omega) hn
  have hds:∀x∈z239 f a.l,x∈a.l:=fun x hx=>by
   obtain⟨j,_,e⟩:=z357 f a.l;rw[e] at hx;exact List.mem_of_mem_drop hx
  have hdl:(z239 f a.l).length≤a.l.length:=by
   obtain⟨j,_,e⟩:=z357 f a.l;rw[e,List.length_drop];omega
  obtain⟨o1,o2,o3⟩:=z3d9 ka q1 q2 hds q4;have el:(P.length:Int)+1=((P.length+1:Nat):Int):=by omega
  have i1:=z25e (b:=ab) hPl;rw[zaf];unfold z5e
  ((with_reducible refine Wp.lett ?_))
  refine y7 (by rw[decide_eq_true_eq];omega) ?_;refine Wp.obind (z10 _ _) (Wp.obind (z8 _ _ _) (Wp.obind c0 (Wp.obind i1 (Wp.obind (z10 _ _) (Wp.obind (z8 _ _ _) (Wp.obind c2 (Wp.obind (z4 _ _) (Wp.callN e1 ?_))))))))
  (((with_reducible refine ye ?_ ?_ ?_);omega;omega))
  rw[el];have re:∀X:List ArmT,(P++[{a with v:=v',l:=z239 f a.l}])++X=P++{a with v:=v',l:=z239 f a.l}::X:=fun X=>by simp
  have hP1:(P++[{a with v:=v',l:=z239 f a.l}]).length=P.length+1:=by rw[List.length_append,List.length_singleton]
  rw[←hP1];refine z39c hn hL R _ fu H1 (by omega) (by omega) (by rw[re];exact o1) (km.tch o3 hm hmd) (by omega) (fun hb=>hmd ?_) (fun y hy=>hB y (List.mem_cons_of_mem _ hy)) (fun y hy=>hne y (List.mem_cons_of_mem _ hy)) fun H' R' s=>hk H' _ (Sub1.cons ka q1 q2 hds hdl ?_ q4 q3 s)
  ·rw [re] at hb
   rcases List.mem_cons.1 hb with hb|hb
   ·rw [hb]
    exact List.mem_cons_self
   ·exact List.mem_cons_of_mem _ (o2 _ hb)
  ·rw [dropW_W]
   rfl
theorem z320(hL:L<1000):
  ∀(R P:List ArmT) (fu:Nat) (H:AHeap),R.length<fu→P.length+R.length=L→ArmsAt H ab (P++R)→RowH H mb TMat [.sl ab 0 L 2,bv,.int .i64 (f:Int)]→mb<H.next→mb ∉ ab::z56 (P++R)→
   (∀(H':AHeap) (R':List ArmT),Sub1 H H' ab R R' z3ae P→Wp (k H') Q)→Wp (z5f (world n (d+1)) (.ptr mb 0) (L:Int) k fu (P.length:Int) H) Q
 |_,_,0,_,hf,_,_,_,_,_,_=>by omega
 |[],P,fu+1,H,hf,hPL,ka,km,hm,hmd,hk=>by
  have hPl:P.length=L:=hPL;rw[za6];unfold z53
  ((with_reducible refine Wp.lett ?_))
  refine y6 (by rw[decide_eq_false_iff_not];omega) ?_;exact hk H [] (Sub1.nil ka)
 |a::R,P,fu+1,H,hf,hPL,ka,km,hm,hmd,hk=>by
  rw[List.length_cons] at hf hPL;have hPl:P.length<L:=by omega
  obtain⟨k1,hab⟩:=ka.at;obtain⟨p1,p2,p3,p4,p5,p6,p7,p8,p9,p10,p11,p12,p13,p14⟩:=id k1
  have hlen:0+P.length*2+1<(z113 (P++a::R)).length:=by
   rw[z23f,List.length_append,List.length_cons];omega
  have c0:=y5 km (show ([.sl ab 0 L 2,bv,.int .i64 (f:Int)]:List AV)[0]? =some (.sl ab 0 L 2) from rfl);obtain⟨v',H1,e1,q0,q1,q2,q3,q4⟩:=z264 (n:=n) (d:=d) (live:=0) p1 p4 p2 p5 (Nat.zero_le _) p11
  have q:ArmAt H1 ab (0+P.length*2) a.nb a.N ((z113 (P++a::R)).set (0+P.length*2+1) v') v' []:=by
   refine⟨q0,by omega,?_,List.getElem?_set_self hlen,q1,(fun _ h=>nomatch h),p7.tch q4 p8 fun hb=>?_,by omega,.nil,(fun _ _ h=>nomatch h),(by rw[q2];exact p11),(fun h=>nomatch h),(by rw[q2];exact p13),(fun h=>nomatch h)⟩
   ·rw [List.getElem?_set_ne (by omega)]
    exact p3
   ·rcases List.mem_cons.1 hb with hb | hb
    ·exact hab hb.symm
    ·exact p13 hb
  obtain⟨o1,o2,o3⟩:=z3d9 ka q q2 (fun _ h=>nomatch h) q4;have el:(P.length:Int)+1=((P.length+1:Nat):Int):=by omega
  have i1:=z25e (b:=ab) hPl;rw[za6];unfold z53
  ((with_reducible refine Wp.lett ?_))
  refine y7 (by rw[decide_eq_true_eq];omega) ?_;refine Wp.obind (z10 _ _) (Wp.obind (z8 _ _ _) (Wp.obind c0 (Wp.obind i1 (Wp.callN e1 ?_))))
  (((with_reducible refine ye ?_ ?_ ?_);omega;omega))
  rw[el];have re:∀X:List ArmT,(P++[{a with v:=v',l:=[]}])++X=P++{a with v:=v',l:=[]}::X:=fun X=>by simp
  have hP1:(P++[{a with v:=v',l:=[]}]).length=P.length+1:=by rw[List.length_append,List.length_singleton]
  rw[←hP1];refine z320 hL R _ fu H1 (by omega) (by omega) (by rw[re];exact o1) (km.tch o3 hm hmd) (by omega) (fun hb=>hmd ?_) fun H' R' s=>hk H' _ (Sub1.cons ka q q2 (fun _ h=>nomatch h) (Nat.zero_le _) rfl q4 q3 s);rw[re] at hb
  rcases List.mem_cons.1 hb with hb|hb
  ·rw [hb]
   exact List.mem_cons_self
  ·exact List.mem_cons_of_mem _ (o2 _ hb)
end
noncomputable def z4a8(ab L:Nat)(bv:AV)(g:Nat):List AV:=[.sl ab 0 L 2,bv,.int .i64 (g:Int)]
structure MatAt (h:AHeap) (mb ab:Nat) (az:List ArmT) (bv:AV) (u:Bytes) (g:Nat):Prop where
 row:RowH h mb TMat (z4a8 ab az.length bv g)
 hmb:mb<h.next
 arms:ArmsAt h ab az
 buf:BufAt h bv u
 m1:mb ∉ ab::z56 az
 m3:∀a∈az,a.nb≠mb
 b1:∀b∈zd6 bv,b≠mb∧b ∉ ab::z56 az∧∀a∈az,a.nb≠b
 len:az.length<1000
def z1e2(mb ab:Nat)(az:List ArmT)(bv:AV):List Nat:=mb::(zd6 bv++(ab::z56 az))
section
variable {h h':AHeap}{mb ab:Nat}{az:List ArmT}{bv:AV}{u:Bytes}{g:Nat}
theorem MatAt.lt(k:MatAt h mb ab az bv u g):∀b∈z1e2 mb ab az bv,b<h.next:=by
 intro b hb
 rcases List.mem_cons.1 hb with hb|hb
 ·rw [hb]
  exact k.hmb
 rcases List.mem_append.1 hb with hb|hb
 ·exact k.buf.lt b hb
 rcases List.mem_cons.1 hb with hb|hb
 ·rw [hb]
  exact k.arms.hab
 ·exact k.arms.lt b hb
theorem MatAt.tch{S:List Nat}(k:MatAt h mb ab az bv u g)(t:Tch S h h')(hS:∀b∈z1e2 mb ab az bv,b ∉ S)(hn:∀a∈az,a.nb ∉ S):MatAt h' mb ab az bv u g:=by
 obtain⟨k1,k2,k3,k4,k5,k6,k7,k8⟩:=k;refine⟨k1.tch t k2 (hS mb List.mem_cons_self),Nat.lt_of_lt_of_le k2 t.1,k3.tch t (hS ab ?_) hn (fun b hb=>hS b ?_),k4.tch t (fun b hb=>hS b ?_),k5,k6,k7,k8⟩
 ·exact List.mem_cons_of_mem _ (List.mem_append_right _ List.mem_cons_self)
 ·exact List.mem_cons_of_mem _ (List.mem_append_right _ (List.mem_cons_of_mem _ hb))
 ·exact List.mem_cons_of_mem _ (List.mem_append_left _ hb)
theorem armB{b:Nat}(hb:b∈ab::z56 az):b∈z1e2 mb ab az bv:=List.mem_cons_of_mem _ (List.mem_append_right _ hb)
theorem bufB{b:Nat}(hb:b∈zd6 bv):b∈z1e2 mb ab az bv:=List.mem_cons_of_mem _ (List.mem_append_left _ hb)
theorem matB{b:Nat}(hb:b∈[mb]):b∈z1e2 mb ab az bv:=by rw[List.mem_singleton.1 hb];exact List.mem_cons_self
end
theorem idx_sl1{b m i:Nat}(h:i<m):z1a8 1 (.sl b 0 m 1) (i:Int)=some (.ptr b (0+i*1)):=by
 have e:Nat.blt i m=true:=by simpa using h
 show (match Nat.blt i m with|true=>some (AV.ptr b (0+i*1))|false=>none)=_;rw[e]
theorem buf_shift{u:Bytes}{rest:List AV}{m c0:Nat}(hu:u.length=m+1)(hc0:c0<256):(laid (z7b u++rest) 0 (z7b (u.drop 1))).set (0+m*1) (.int .u8 (c0:Int))=z7b (u.drop 1++[UInt8.ofNat c0])++rest:=by
 have h1:(z7b (u.drop 1)).length=m:=by rw[ze0,List.length_drop];omega
 have h2:(z7b u).length=m+1:=by rw[ze0,hu]
 unfold laid;rw[List.take_zero,List.nil_append,h1,Nat.zero_add,Nat.zero_add,Nat.mul_one,List.drop_append_of_le_length (by omega),List.set_append_right _ _ (by omega),h1,Nat.sub_self]
 obtain⟨x,hx⟩:∃x,(z7b u).drop m=[x]:=by
  have:=List.drop_eq_getElem_cons (l:=z7b u) (i:=m) (by omega);have e0:(z7b u).drop (m+1)=[]:=List.drop_of_length_le (by omega);rw[e0] at this;exact⟨_,this⟩
 rw[hx,z23c];show z7b (u.drop 1)++(AV.int .u8 (c0:Int)::rest)=z7b (u.drop 1)++[AV.int .u8 ((UInt8.ofNat c0).toNat:Int)]++rest;rw[UInt8.toNat_ofNat_of_lt' hc0,List.append_assoc];rfl
def z202(u:Bytes)(c:UInt8):Bytes:=if u.length<256 then u++[c] else u.drop 1++[c]
def z128(u:Bytes)(g:Nat):Nat:=if u.length<256 then g else g+1
def z459(u:Bytes)(g:Nat)(A:List z2f6):List z2f6:=if u.length<256 then A else A.map (z3ea (g+1))
section
variable {n d mb ab g byte:Nat}{h:AHeap}{az:List ArmT}{bv:AV}{u:Bytes}
theorem keep_r(hn:20000000<n)(hby:byte<256)(k:MatAt h mb ab az bv u g)(hu:u.length≤256)(hlive:u.length=256→∀a∈az,zd6 a.v≠[])(hB:z2f5 2500001 az)(hg:g+u.length<2500000)(hx:h.ex=[]):
  ∃h' az' bv',world n (d+3) 34 [.ptr mb 0,.int .u8 (byte:Int)] h=some (.ret (.tup []),h')∧MatAt h' mb ab az' bv' (z202 u (UInt8.ofNat byte)) (z128 u g)∧az'.map z116=z459 u g (az.map z116)∧az'.map (·.nb)=az.map (·.nb)∧(∀b∈z1e2 mb ab az' bv',b∈z1e2 mb ab az bv∨h.next≤b)∧Tch (z1e2 mb ab az bv) h h'∧∀B,z2f5 B az→z2f5 B az':=by
 suffices hK:Wp (world n (d+3) 34 [.ptr mb 0,.int .u8 (byte:Int)] h) fun r h'=>∃az' bv',r=.ret (.tup [])∧MatAt h' mb ab az' bv' (z202 u (UInt8.ofNat byte)) (z128 u g)∧az'.map z116=z459 u g (az.map z116)∧az'.map (·.nb)=az.map (·.nb)∧(∀b∈z1e2 mb ab az' bv',b∈z1e2 mb ab az bv∨h.next≤b)∧Tch (z1e2 mb ab az bv) h h'∧∀B,z2f5 B az→z2f5 B az' by
  obtain⟨_,h',e,az',bv',rfl,k⟩:=hK;exact⟨h',az',bv',e,k⟩
 obtain⟨k1,k2,k3,k4,k5,k6,k7,k8⟩:=id k;rw[z1de];unfold z72;have c1:=y5 k1 (show (z4a8 ab az.length bv g)[1]? =some bv from rfl);refine Wp.obind (z10 _ _) (Wp.obind (z8 _ _ _) (Wp.obind c1 (Wp.obind k4.len ?_)))
 ((with_reducible refine Wp.lett ?_))
 by_cases h256:u.length<256
 ·refine y7 (by rw [decide_eq_true_eq]; omega) ?_
  refine Wp.obind (z10 _ _) (Wp.obind (z8 _ _ _) (Wp.obind c1 ?_));refine y32 (Mem.nil [] h) (bldSlBy _ _) rfl (by rw[hx];rfl) fun h2 M2=>?_;have t2:=M2.tch;obtain⟨h3,e3,kb3,hlt3,t3⟩:=(k4.tch t2 (fun _ _=>by simp)).push M2.at0.1 hby (by omega) (by rw[t2.2.1,hx]);refine Wp.outK e3 ?_;refine Wp.obind (z10 _ _) (Wp.obind (z8 _ _ _) ?_);show Wp (Abs.obind (z15 h3 1 [AV.sl h2.next 0 (u.length+1) 1] (.ptr mb (0+1))) _) _;have n2:=t2.1;have hmbS:mb ∉ zd6 bv:=fun hb=>(k7 mb hb).1 rfl;have t03:Tch (zd6 bv) h h3:=(t2.mono fun b hb=>nomatch hb).trans t3;refine Wp.st1 (k1.tch t03 k2 hmbS) (show 0+1<3 by decide) rfl fun h4 k4' t4 n4=>?_;have hlt:=k.lt;have t04:Tch (mb::zd6 bv) h h4:=(t03.mono fun b hb=>.inl (List.mem_cons_of_mem _ hb)).trans (t4.mono fun b hb=>.inl (by rw[List.mem_singleton.1 hb];exact List.mem_cons_self))
  have arms4:ArmsAt h4 ab az:=k3.tch t04 (fun hb=>by
   rcases List.mem_cons.1 hb with hb|hb
   ·exact k5 (hb▸List.mem_cons_self)
   ·exact(k7 _ hb).2.1 List.mem_cons_self) (fun a ha hb=>by
   rcases List.mem_cons.1 hb with hb|hb
   ·exact k6 a ha hb
   ·exact(k7 _ hb).2.2 a ha rfl) (fun b hb' hb=>by
   rcases List.mem_cons.1 hb with hb|hb
   ·exact k5 (hb▸List.mem_cons_of_mem _ hb')
   ·exact(k7 _ hb).2.1 (List.mem_cons_of_mem _ hb'))
  have hab:=k3.hab;have e1:z202 u (UInt8.ofNat byte)=u++[UInt8.ofNat byte]:=if_pos h256;have e2:z128 u g=g:=if_pos h256;have e3:z459 u g (az.map z116)=az.map z116:=if_pos h256;rw[e1,e2,e3];refine Wp.ret ⟨az,.sl h2.next 0 (u.length+1) 1,rfl,⟨k4',by omega,arms4,kb3.tch t4 (fun b hb hm=>?_),k5,k6,fun b hb=>?_,k8⟩,rfl,rfl,fun b hb=>?_,t04.mono fun b hb=>.inl ?_,fun _ h=>h⟩
  ·have h1 := List.mem_singleton.1 hb
   have h2:=List.mem_singleton.1 hm;omega
  ·have hb := List.mem_singleton.1 hb
   subst hb;refine⟨by omega,fun hm=>?_,fun a ha e=>?_⟩
   ·have := hlt _ (armB (mb := mb) (bv := bv) hm)
    omega
   ·have := (k3.net a ha).2.2
    omega
  ·rcases List.mem_cons.1 hb with hb | hb
   ·exact .inl (by rw[hb];exact List.mem_cons_self)
   rcases List.mem_append.1 hb with hb|hb
   ·right
    rw[List.mem_singleton.1 hb];exact n2
   ·exact .inl (armB hb)
  ·rcases List.mem_cons.1 hb with hb | hb
   ·rw [hb]
    exact List.mem_cons_self
   ·exact bufB hb
 ·have hul : u.length = 255 + 1 := by omega
  refine y6 (by rw[decide_eq_false_iff_not];omega) ?_
  rcases k4 with⟨rfl,rfl⟩|⟨c,rest,rfl,kc,hc⟩
  ·cases hul
  obtain⟨b1,b2,b3⟩:=k7 c (List.mem_singleton.2 rfl);have he:Abs.elemOf Tryd.prog TBy=some 5:=by kernel_rfl
  have hi:(Tryd.prog.info? 5).isSome=true:=by kernel_rfl
  have hsz:Tryd.prog.cellsOf 5=1:=by kernel_rfl
  have hbl:=ze0 u;have s1:=z24b (P:=Tryd.prog) (h:=h) (b:=c) (o:=0) (m:=u.length) (l1:=1) (k1:=.i64) he hi hsz (by omega) (by omega)
  have ecp:((z7b u++rest).drop (1*1)).take ((u.length - 1)*1)=z7b (u.drop 1):=by
   rw[List.drop_append_of_le_length (by omega),Nat.mul_one,z3fd];exact List.take_left' (by rw[ze0,List.length_drop,Nat.mul_one])
  obtain⟨h2,e2,q2,n2,t2⟩:=z3b2 (m:=u.length) (j:=1) he hi hsz kc (by rw[List.length_append];omega) (by omega) (by rw[ecp];exact z46d _);rw[ecp] at q2;have hmc:mb≠c:=fun e=>b1 e.symm;have row2:=k1.tch t2 k2 (by simpa using hmc);have d1:=y5 row2 (show (z4a8 ab az.length (.sl c 0 u.length 1) g)[1]? =some (.sl c 0 u.length 1) from rfl);refine Wp.obind (z10 _ _) (Wp.obind (z8 _ _ _) (Wp.obind c1 (Wp.obind (z10 _ _) (Wp.obind (z8 _ _ _) (Wp.obind c1 (Wp.outK s1 (Wp.outK e2 (Wp.obind (z4 _ _) ?_))))))));refine Wp.obind (z10 _ _) (Wp.obind (z8 _ _ _) (Wp.obind d1 (Wp.obind (z10 _ _) (Wp.obind (z8 _ _ _) (Wp.obind d1 (Wp.obind (show z17d (.sl c 0 u.length 1)=some (u.length:Int) from rfl) ?_))))))
  (((with_reducible refine ye ?_ ?_ ?_);omega;omega))
  have i1:=idx_sl1 (b:=c) (m:=u.length) (i:=255) (by omega);rw[show ((255:Nat):Int)=(u.length:Int) - 1 by omega] at i1;refine Wp.obind i1 ?_
  have hll:255<(laid (z7b u++rest) 0 (z7b (u.drop 1))).length:=by
   rw[z11d (by rw[ze0,List.length_drop,List.length_append];omega),List.length_append];omega
  refine Wp.st1 q2 (by omega) rfl fun h3 q3 t3 n3=>?_;rw[buf_shift hul hby] at q3;have row3:=row2.tch t3 (by omega) (by simpa using hmc);have d2:=y5 row3 (show (z4a8 ab az.length (.sl c 0 u.length 1) g)[2]? =some (.int .i64 (g:Int)) from rfl);refine Wp.obind (z10 _ _) (Wp.obind (z8 _ _ _) (Wp.obind d2 (Wp.obind (z4 _ _) ?_)))
  (((with_reducible refine ye ?_ ?_ ?_);omega;omega))
  refine Wp.obind (z10 _ _) (Wp.obind (z8 _ _ _) ?_);refine Wp.st1 row3 (show 0+2<3 by decide) rfl fun h4 row4 t4 n4=>?_;have eg:(g:Int)+1=((g+1:Nat):Int):=by omega
  rw[eg] at row4;have row4':RowH h4 mb TMat [.sl ab 0 az.length 2,.sl c 0 u.length 1,.int .i64 ((g+1:Nat):Int)]:=row4;have d3:=y5 row4' (show ([.sl ab 0 az.length 2,.sl c 0 u.length 1,.int .i64 ((g+1:Nat):Int)]:List AV)[0]? =some (.sl ab 0 az.length 2) from rfl);refine Wp.obind (z10 _ _) (Wp.obind (z8 _ _ _) (Wp.obind d3 (Wp.obind (show z17d (.sl ab 0 az.length 2)=some (az.length:Int) from rfl) ?_)));refine y1a fun k60 ek=>?_;have t23:Tch [c] h h3:=t2.trans t3;have t04:Tch [mb,c] h h4:=(t23.mono fun b hb=>.inl (by rw[List.mem_singleton.1 hb];simp)).trans (t4.mono fun b hb=>.inl (by rw[List.mem_singleton.1 hb];simp))
  have two:∀{b},b∈[mb,c]→b=mb∨b=c:=fun hb=>by
   rcases List.mem_cons.1 hb with hb|hb
   ·exact .inl hb
   ·exact .inr (List.mem_singleton.1 hb)
  have arms4:ArmsAt h4 ab az:=k3.tch t04 (fun hb=>by
   rcases two hb with hb|hb
   ·exact k5 (hb▸List.mem_cons_self)
   ·exact b2 (hb▸List.mem_cons_self)) (fun a ha hb=>by
   rcases two hb with hb|hb
   ·exact k6 a ha hb
   ·exact b3 a ha hb) (fun b hb' hb=>by
   rcases two hb with hb|hb
   ·exact k5 (hb▸List.mem_cons_of_mem _ hb')
   ·exact b2 (hb▸List.mem_cons_of_mem _ hb'))
  refine z39c (n:=n) (d:=d) (L:=az.length) (f:=g+1) hn k8 az [] n h4 (by omega) (by simp) arms4 row4' (by omega) k5 hB (hlive (by omega)) fun H' R' s=>?_;obtain⟨w1,w2,w3,w4,w5,w6,w7,w8⟩:=s;rw[List.nil_append] at w1 w3 w6;rw[List.nil_append] at w6;rw[ek]
  have hlR:R'.length=az.length:=by
   have:=congrArg List.length w5;rw[List.length_map,List.length_map] at this;exact this
  have nbR:∀a∈R',∃w∈az,w.nb=a.nb:=fun a ha=>by
   have:a.nb∈R'.map (·.nb):=List.mem_map_of_mem ha;rw[w5] at this;exact List.mem_map.1 this
  have sub:∀b∈ab::z56 R',b∈ab::z56 az:=fun b hb=>by
   rcases List.mem_cons.1 hb with hb|hb
   ·rw [hb]
    exact List.mem_cons_self
   ·exact List.mem_cons_of_mem _ (w6 b hb)
  have hcl:c<h4.next:=by omega
  have kc4:=(q3.tch t4 (by omega) (by simpa using hmc.symm)).tch w1 hcl b2;have e1:z202 u (UInt8.ofNat byte)=u.drop 1++[UInt8.ofNat byte]:=if_neg h256;have e2:z128 u g=g+1:=if_neg h256;have e3:z459 u g (az.map z116)=(az.map z116).map (z3ea (g+1)):=if_neg h256;have eul:(u.drop 1++[UInt8.ofNat byte]).length=u.length:=by rw[List.length_append,List.length_singleton,List.length_drop];omega
  rw[e1,e2,e3];refine Wp.ret ⟨R',.sl c 0 u.length 1,rfl,⟨?_,by omega,w3,.inr ⟨c,rest,by rw[eul],kc4,by omega⟩,fun hb=>k5 (sub _ hb),fun a ha e=>?_,fun b hb=>?_,by omega⟩,w4,w5,fun b hb=>?_,?_,w7⟩
  ·rw [hlR]
   exact row4'.tch w1 (by omega) k5
  ·obtain ⟨w, hw, e'⟩ := nbR a ha
   exact k6 w hw (e'.trans e)
  ·have hb := List.mem_singleton.1 hb
   subst hb;refine⟨b1,fun hm=>b2 (sub _ hm),fun a ha e=>?_⟩;obtain⟨w,hw,e'⟩:=nbR a ha;exact b3 w hw (e'.trans e)
  ·left
   rcases List.mem_cons.1 hb with hb|hb
   ·rw [hb]
    exact List.mem_cons_self
   rcases List.mem_append.1 hb with hb|hb
   ·exact bufB hb
   ·exact armB (sub b hb)
  ·refine (t04.mono fun b hb => .inl ?_).trans (w1.mono fun b hb => .inl (armB hb))
   rcases two hb with hb|hb
   ·rw [hb]
    exact List.mem_cons_self
   ·rw [hb]
    exact bufB (List.mem_singleton.2 rfl)
theorem empty_r(hn:20000000<n)(k:MatAt h mb ab az bv u g):
  ∃h' az' bv',world n (d+2) 35 [.ptr mb 0] h=some (.ret (.tup []),h')∧MatAt h' mb ab az' bv' [] 0∧az'.map z116=(az.map z116).map z3ae∧az'.map (·.nb)=az.map (·.nb)∧(∀b∈z1e2 mb ab az' bv',b∈z1e2 mb ab az bv)∧h'.next=h.next∧Tch (z1e2 mb ab az bv) h h':=by
 suffices hK:Wp (world n (d+2) 35 [.ptr mb 0] h) fun r h'=>∃az' bv',r=.ret (.tup [])∧MatAt h' mb ab az' bv' [] 0∧az'.map z116=(az.map z116).map z3ae∧az'.map (·.nb)=az.map (·.nb)∧(∀b∈z1e2 mb ab az' bv',b∈z1e2 mb ab az bv)∧h'.next=h.next∧Tch (z1e2 mb ab az bv) h h' by
  obtain⟨_,h',e,az',bv',rfl,k⟩:=hK;exact⟨h',az',bv',e,k⟩
 obtain⟨k1,k2,k3,k4,k5,k6,k7,k8⟩:=id k;rw[z1ac];unfold z64;have c1:=y5 k1 (show (z4a8 ab az.length bv g)[1]? =some bv from rfl)
 obtain⟨v8,s1,hb8,kb8,hc8⟩:∃v8,zb4 Tryd.prog h TBy bv none (some (.int .i64 ((0:Nat):Int)))=some (.val v8,h)∧zd6 v8=zd6 bv∧BufAt h v8 []∧v8.one=true∧AV.cells v8=[v8]:=by
  rcases k4 with⟨rfl,rfl⟩|⟨c,rest,rfl,kc,hc⟩
  ·exact⟨.nsl,by kernel_rfl,rfl,.inl ⟨rfl,rfl⟩,rfl,rfl⟩
  ·exact⟨.sl c 0 0 1,z40d (P:=Tryd.prog) (e:=5) (k1:=.i64) (by kernel_rfl) (by kernel_rfl) (by kernel_rfl) (Nat.zero_le _),rfl,.inr ⟨c,z7b u++rest,rfl,kc,hc⟩,rfl,rfl⟩
 refine Wp.obind (z10 _ _) (Wp.obind (z8 _ _ _) (Wp.obind c1 (Wp.outK s1 (Wp.obind (z10 _ _) (Wp.obind (z8 _ _ _) ?_)))));rw[hc8.2];refine Wp.st1 k1 (show 0+1<3 by decide) hc8.1 fun h2 r2 t2 n2=>?_;refine Wp.obind (z10 _ _) (Wp.obind (z8 _ _ _) ?_);refine Wp.st1 r2 (show 0+2<3 by decide) rfl fun h3 r3 t3 n3=>?_;have r3':RowH h3 mb TMat [.sl ab 0 az.length 2,v8,.int .i64 ((0:Nat):Int)]:=r3;have d3:=y5 r3' (show ([.sl ab 0 az.length 2,v8,.int .i64 ((0:Nat):Int)]:List AV)[0]? =some (.sl ab 0 az.length 2) from rfl);refine Wp.obind (z10 _ _) (Wp.obind (z8 _ _ _) (Wp.obind d3 (Wp.obind (show z17d (.sl ab 0 az.length 2)=some (az.length:Int) from rfl) ?_)));refine y1a fun k22 ek=>?_;have t03:Tch [mb] h h3:=t2.trans t3;have arms3:ArmsAt h3 ab az:=k3.tch t03 (fun hb=>k5 (List.mem_singleton.1 hb▸List.mem_cons_self)) (fun a ha hb=>k6 a ha (List.mem_singleton.1 hb)) (fun b hb' hb=>k5 (List.mem_singleton.1 hb▸List.mem_cons_of_mem _ hb'));refine z320 (n:=n) (d:=d) (L:=az.length) (f:=0) k8 az [] n h3 (by omega) (by simp) arms3 r3' (by omega) k5 fun H' R' s=>?_;obtain⟨w1,w2,w3,w4,w5,w6,w7,w8⟩:=s;rw[List.nil_append] at w1 w3 w6;rw[List.nil_append] at w6;rw[ek]
 have hlR:R'.length=az.length:=by
  have:=congrArg List.length w5;rw[List.length_map,List.length_map] at this;exact this
 have nbR:∀a∈R',∃w∈az,w.nb=a.nb:=fun a ha=>by
  have:a.nb∈R'.map (·.nb):=List.mem_map_of_mem ha;rw[w5] at this;exact List.mem_map.1 this
 have sub:∀b∈ab::z56 R',b∈ab::z56 az:=fun b hb=>by
  rcases List.mem_cons.1 hb with hb|hb
  ·rw [hb]
   exact List.mem_cons_self
  ·exact List.mem_cons_of_mem _ (w6 b hb)
 have kb3:=kb8.tch t03 (fun b hb hm=>by
  rw[hb8] at hb;exact(k7 b hb).1 (List.mem_singleton.1 hm))
 refine Wp.ret ⟨R',v8,rfl,⟨?_,by omega,w3,kb3.tch w1 (fun b hb=>by rw[hb8] at hb;exact(k7 b hb).2.1),fun hb=>k5 (sub _ hb),fun a ha e=>?_,fun b hb=>?_,by omega⟩,w4,w5,fun b hb=>?_,by omega,?_⟩
 ·rw [hlR]
  exact r3'.tch w1 (by omega) k5
 ·obtain ⟨w, hw, e'⟩ := nbR a ha
  exact k6 w hw (e'.trans e)
 ·rw [hb8] at hb
  obtain⟨b1,b2,b3⟩:=k7 b hb;refine⟨b1,fun hm=>b2 (sub _ hm),fun a ha e=>?_⟩;obtain⟨w,hw,e'⟩:=nbR a ha;exact b3 w hw (e'.trans e)
 ·rcases List.mem_cons.1 hb with hb | hb
  ·rw [hb]
   exact List.mem_cons_self
  rcases List.mem_append.1 hb with hb|hb
  ·rw [hb8] at hb
   exact bufB hb
  ·exact armB (sub b hb)
 ·exact(t03.mono fun b hb=>.inl (matB hb)).trans (w1.mono fun b hb=>.inl (armB hb))
end
abbrev MS:=List z2f6×Bytes×Nat
def z6d(m:MS)(c:UInt8):MS:=(z459 m.2.1 m.2.2 m.1,z202 m.2.1 c,z128 m.2.1 m.2.2)
def atM(m:MS):Nat:=m.2.2+m.2.1.length - 1
def z155:MS→Bytes→Nat→Nat×Option (Nat×Int×Nat)×MS
 |m,[],i=>(i,none,m)
 |m,c::s,i=>match (z4a c.toNat (atM (z6d m c)) (z6d m c).1).1 with
  |some z=>(i+1,some (z.1,(z.2:Int) - ((z6d m c).2.2:Int),(z6d m c).2.1.length),((z4a c.toNat (atM (z6d m c)) (z6d m c).1).2.map z3ae,[],0))
  |none=>z155 ((z4a c.toNat (atM (z6d m c)) (z6d m c).1).2,(z6d m c).2.1,(z6d m c).2.2) s (i+1)
noncomputable def feedC:Option (Nat×Int×Nat)→List AV
 |some z=>[.int .i64 (z.1:Int),.int .i64 z.2.1,.int .i64 (z.2.2:Int)]
 |none=>[.int .i64 0,.int .i64 0,.int .i64 0]
theorem z4b3{u:Bytes}{c:UInt8}(h:u.length≤256):(z202 u c).length≤256∧1≤(z202 u c).length:=by
 unfold z202
 split<;>rw[List.length_append,List.length_singleton]
 ·omega
 ·rw [List.length_drop]
  omega
theorem z4b4{m:MS}{c:UInt8}(h:m.2.1.length≤256):(z6d m c).2.2+(z6d m c).2.1.length=m.2.2+m.2.1.length+1:=by
 show z128 m.2.1 m.2.2+(z202 m.2.1 c).length=_;unfold z128 z202
 split<;>rw[List.length_append,List.length_singleton]
 ·omega
 ·rw [List.length_drop]
  omega
theorem hitW_lt{N:Nt}{c B:Nat}:∀(l:List WayW) (a:Option Nat) (f:Nat),(∀x∈l,x.2<B)→(∀g,a=some g→g<B)→hitW N c a l=some f→f<B
 |[],a,f,_,ha,h=>ha f h
 |x::l,a,f,hl,ha,h=>by
  refine hitW_lt l (accW N c a x) f (fun y hy=>hl y (List.mem_cons_of_mem _ hy)) (fun g hg=>?_) h
  cases a with
  |some k=>exact ha g hg
  |none=>
   have hg:(if z12b N (stepN N x.1 c)=true then some x.2 else none)=some g:=hg
   split at hg
   ·cases hg
    exact hl x List.mem_cons_self
   ·cases hg
theorem z40c{c B:Nat}:∀(A:List z2f6) (z:Nat×Nat),(∀a∈A,∀x∈a.2,x.2<B)→(z4a c B A).1=some z→z.2<B+1∧z.1<A.length
 |[],z,_,h=>by cases h
 |a::A,z,hA,h=>by
  rw[z4a] at h
  split at h
  ·rename_i f hf
   cases h;refine⟨hitW_lt _ none f (fun x hx=>?_) (fun g hg=>by cases hg) hf,Nat.succ_pos _⟩
   rcases List.mem_append.1 hx with hx|hx
   ·exact Nat.lt_succ_of_lt (hA a List.mem_cons_self x hx)
   ·rw [List.mem_singleton.1 hx]
    exact Nat.lt_succ_self _
  ·cases hr : (z4a c B A).1 with
   |none=>
    have h2:Option.map _ (z4a c B A).1=some z:=h;rw[hr] at h2;cases h2
   |some w=>
    have h2:Option.map _ (z4a c B A).1=some z:=h;rw[hr] at h2;cases h2;have:=z40c A w (fun a ha=>hA a (List.mem_cons_of_mem _ ha)) hr;exact⟨this.1,by show w.1+1<_;rw[List.length_cons];omega⟩
def MatS(h:AHeap)(mb ab:Nat)(S nbs:List Nat)(m:MS):Prop:=∃az bv,MatAt h mb ab az bv m.2.1 m.2.2∧az.map z116=m.1∧S=z1e2 mb ab az bv∧nbs=az.map (·.nb)∧m.2.1.length≤256∧z2f5 (m.2.2+m.2.1.length) az∧(m.2.1≠[]→∀a∈az,zd6 a.v≠[])
section
variable {h h':AHeap}{mb ab:Nat}{S nbs:List Nat}{m:MS}
theorem MatS.tch{T:List Nat}(k:MatS h mb ab S nbs m)(t:Tch T h h')(hS:∀b∈S,b ∉ T)(hn:∀b∈nbs,b ∉ T):MatS h' mb ab S nbs m:=by
 obtain⟨az,bv,k1,k2,rfl,rfl,k5⟩:=k;exact⟨az,bv,k1.tch t hS (fun a ha=>hn _ (List.mem_map_of_mem ha)),k2,rfl,rfl,k5⟩
theorem MatS.lt(k:MatS h mb ab S nbs m):∀b∈S,b<h.next:=by
 obtain⟨az,bv,k1,k2,rfl,_⟩:=k;exact k1.lt
theorem MatS.tz(k:MatS h mb ab S nbs m)(hT:HasTz h):0 ∉ S:=by
 obtain⟨az,bv,k1,k2,rfl,_⟩:=k;intro hb
 rcases List.mem_cons.1 hb with hb|hb
 ·exact z246 hT k1.row hb
 rcases List.mem_append.1 hb with hb|hb
 ·rcases k1.buf with ⟨rfl, _⟩ | ⟨c, rest, rfl, kc, _⟩
  ·exact nomatch hb
  ·exact z246 hT kc (List.mem_singleton.1 hb)
 ·exact k1.arms.tz hT hb
end
set_option maxRecDepth 100000 in
theorem z3cf{h:AHeap}{b:Nat}(k:RowH h b z3c0 [.int .i64 0,.int .i64 0,.int .i64 0]):z3d0 h b z3c0 [.int .i64 0,.int .i64 0,.int .i64 0]=true:=by
 obtain⟨t,h1,h2⟩:=k;have e0:t.get 0=some (.int .i64 0):=h2 0 (by decide);have e1:t.get 1=some (.int .i64 0):=h2 1 (by decide);have e2:t.get 2=some (.int .i64 0):=h2 2 (by decide)
 have e3:t.take 0 3=some [.int .i64 0,.int .i64 0,.int .i64 0]:=by
  simp only[T.take,e0,e1,e2]
 unfold z3d0;rw[h1];show (Nat.beq 3 3&&Nat.beq z3c0 z3c0&&z2a1 (t.take 0 3) _)=true;rw[e3];rfl
theorem eqMat(b o:Nat)(h:AHeap):ze4 Tryd.prog h .eql 31 true (some (.ptr b o)) (some AV.nilp)=some (.val (.bool false),h):=by kernel_rfl
section
variable {n d mb ab:Nat}{h:AHeap}{S nbs:List Nat}{s:Bytes}{m:MS}{Q:ARes→AHeap→Prop}{k16:AHeap→R}
theorem z3ad(hn:18446744073709551616<n)(hsl:s.length<2000000):
  ∀(k i fu:Nat) (m:MS) (S:List Nat) (H:AHeap),k<fu→i+k=s.length→m.2.2+m.2.1.length+k<2000000→MatS H mb ab S nbs m→HasTz H→H.ex=[]→RowH H h.next z3c0 [.int .i64 0,.int .i64 0,.int .i64 0]→h.next<H.next→h.next ∉ S→(∀b∈nbs,b≠h.next)→
   (∀H' S',(z155 m (s.drop i) i).2.1=none→MatS H' mb ab S' nbs (z155 m (s.drop i) i).2.2→Tch S H H'→(∀b∈S',b∈S∨H.next≤b)→(z155 m (s.drop i) i).1=s.length→Wp (k16 H') Q)→
   (∀H' S' z,(z155 m (s.drop i) i).2.1=some z→MatS H' mb ab S' nbs (z155 m (s.drop i) i).2.2→Tch (h.next::S) H H'→(∀b∈S',b∈S∨H.next≤b)→Q (.ret (.tup [.int .i64 ((z155 m (s.drop i) i).1:Int),.agg (feedC (some z)),.bool true])) H')→
   Wp (z6c (world n (d+5)) (.ptr mb 0) s h k16 fu (i:Int) H) Q
 |_,_,0,_,_,_,hf,_,_,_,_,_,_,_,_,_,_,_=>by omega
 |0,i,fu+1,m,S,H,hf,hm,hb,km,hT,hx,kh,hh,hS,hnb,hk,hq=>by
  have ll:=z5b s;rw[zb0];unfold z60
  repeat(first|(with_reducible refine Wp.lett ?_)|((with_reducible refine y6 ?_ ?_;apply decide_eq_false);omega))
  have e:s.drop i=[]:=List.drop_of_length_le (by omega);rw[e] at hk;exact hk H S rfl km (Tch.refl _ _) (fun b hb=>.inl hb) (by show i=_;omega)
 |k+1,i,fu+1,m,S,H,hf,hm,hb,km,hT,hx,kh,hh,hS,hnb,hk,hq=>by
  have ll:=z5b s;have hi:i<s.length:=by omega
  have hxs:=z231 hi;have el:(i:Int)+1=((i+1:Nat):Int):=by omega
  rw[List.drop_eq_getElem_cons hi] at hk hq
  generalize hc:s[i]=c at hk hq hxs
  have hcb:c.toNat<256:=c.toNat_lt;have hTS:=km.tz hT;obtain⟨az,bv,k1,k2,eS,eN,k5,k6,k7⟩:=km;subst eS
  obtain⟨h1,az1,bv1,e1,m1,a1,n1,s1,t1,b1⟩:=keep_r (n:=n) (d:=d+2) (by omega) hcb k1 k5 (fun e=>k7 (fun e0=>by rw[e0] at e;cases e)) (fun a ha=>by
   have:=k6 a ha;exact⟨by omega,fun x hx=>by have:=this.2 x hx;omega⟩) (by omega) hx
  rw[UInt8.ofNat_toNat] at m1;have hl1:=z4b4 (m:=m) (c:=c) k5;obtain⟨hu1,hu2⟩:=z4b3 (c:=c) k5
  have e2:z6d m c=(az1.map z116,z202 m.2.1 c,z128 m.2.1 m.2.2):=by
   show (z459 m.2.1 m.2.2 m.1,_,_)=_;rw[a1,k2]
  have hB1:z2f5 (atM (z6d m c)) az1:=by
   have:atM (z6d m c)=m.2.2+m.2.1.length:=by
    unfold atM;omega
   rw[this];exact b1 _ k6
  have hat:((z128 m.2.1 m.2.2:Nat):Int)+((z202 m.2.1 c).length:Int) - 1=((atM (z6d m c):Nat):Int):=by
   unfold atM;show _=((z128 m.2.1 m.2.2+(z202 m.2.1 c).length - 1:Nat):Int);omega
  have hatl:atM (z6d m c)<2000000:=by
   unfold atM;omega
  have kh1:=kh.tch t1 hh hS;have hh1:h.next<h1.next:=Nat.lt_of_lt_of_le hh t1.1;have hT1:=hT.tch t1 hTS;have hx1:h1.ex=[]:=by rw[t1.2.1,hx]
  have r1:=m1.row;have c2:=y5 r1 (show (z4a8 ab az1.length bv1 (z128 m.2.1 m.2.2))[2]? =some (.int .i64 ((z128 m.2.1 m.2.2:Nat):Int)) from rfl);have c1:=y5 r1 (show (z4a8 ab az1.length bv1 (z128 m.2.1 m.2.2))[1]? =some bv1 from rfl);have c0:=y5 r1 (show (z4a8 ab az1.length bv1 (z128 m.2.1 m.2.2))[0]? =some (.sl ab 0 az1.length 2) from rfl)
  have hS1:∀b∈z1e2 mb ab az1 bv1,b≠h.next:=fun b hb e=>by
   rcases s1 b hb with hb|hb
   ·exact hS (e▸hb)
   ·omega
  have hnb1:∀a∈az1,a.nb≠h.next:=fun a ha=>hnb _ (by rw[eN, ←n1];exact List.mem_map_of_mem ha);rw[zb0];unfold z60
  ((with_reducible refine Wp.lett ?_))
  refine y7 (by rw[decide_eq_true_eq];omega) ?_;refine Wp.obind hxs (Wp.callN e1 (Wp.obind (z10 _ _) (Wp.obind (z8 _ _ _) (Wp.obind c2 (Wp.obind (z4 _ _) (Wp.obind (z10 _ _) (Wp.obind (z8 _ _ _) (Wp.obind c1 (Wp.obind m1.buf.len ?_)))))))))
  have hgk:z128 m.2.1 m.2.2≤m.2.2+1:=by
   unfold z128
   split<;>omega
  (((with_reducible refine ye ?_ ?_ ?_);omega;omega))
  (((with_reducible refine ye ?_ ?_ ?_);omega;omega))
  rw[hat];refine Wp.obind (z10 _ _) (Wp.obind (z8 _ _ _) (Wp.obind c0 (Wp.obind hxs ?_)));refine y9 (Mem.nil [] h1) fun h2 M2=>?_;have t2:=M2.tch;have q2:=M2.at0.1;have hq2:=M2.at0.2.1;have arms2:=m1.arms.tch t2 (by simp) (fun _ _=>by simp) (fun _ _=>by simp);obtain⟨h3,R',e3,t3,k3,b3,a3,n3,s3,w3⟩:=z26e (n:=n) (d:=d) (byte:=c.toNat) (at_:=atM (z6d m c)) hn hcb (by omega) m1.len arms2 hB1 (hT1.tch t2 (by simp)) (by rw[t2.2.1,hx1]);refine Wp.callN e3 ?_
  have hqS:h1.next ∉ ab::z56 az1:=fun hb=>by
   have:=m1.lt _ (armB (mb:=mb) (bv:=bv1) hb);omega
  have q3:=q2.tch t3 hq2 hqS;refine Wp.chk (z267 (z3cf q3) rfl) ?_;refine Wp.obind (zf1 _ _) (Wp.obind (z11 _) (Wp.obind (zf0 _ _ _) (Wp.obind (z5 _) ?_)));rw[ze];have hfl:∀r,(z45a 0 (atM (z6d m c)) r).length=3∧(z45a 0 (atM (z6d m c)) r).all AV.one=true:=fun r=>by cases r<;>exact⟨rfl,rfl⟩
  have hq3:h1.next<h3.next:=Nat.lt_of_lt_of_le hq2 t3.1;refine Wp.stAll q3 (hfl _).1 rfl (hfl _).2 fun h4 q4 t4 n4=>?_
  -- the matcher behind the step
  have n12:=t2.1;have n23:=t3.1;have lt1:=m1.lt
  have nbR:∀a∈R',∃w∈az1,w.nb=a.nb:=fun a ha=>by
   have:a.nb∈R'.map (·.nb):=List.mem_map_of_mem ha;rw[n3] at this;exact List.mem_map.1 this
  have hlR:R'.length=az1.length:=by
   have:=congrArg List.length n3;rw[List.length_map,List.length_map] at this;exact this
  have sub3:∀b∈ab::z56 R',b∈ab::z56 az1∨h2.next≤b:=fun b hb=>by
   rcases List.mem_cons.1 hb with hb|hb
   ·rw [hb]
    exact .inl List.mem_cons_self
   ·exact(s3 b hb).imp (fun h=>List.mem_cons_of_mem _ h) id
  have t14:Tch (ab::z56 az1) h1 h4:=((t2.mono fun b hb=>nomatch hb).trans t3).trans' t4 fun b hb=>by
   rw[List.mem_singleton.1 hb];exact .inr (Nat.le_refl _)
  have m4:MatAt h4 mb ab R' bv1 (z202 m.2.1 c) (z128 m.2.1 m.2.2):=by
   refine⟨?_,Nat.lt_of_lt_of_le m1.hmb t14.1,k3.tch t4 ?_ (fun a ha hm=>?_) (fun b hb hm=>?_),m1.buf.tch t14 (fun b hb=>(m1.b1 b hb).2.1),fun hb=>?_,fun a ha e=>?_,fun b hb=>?_,?_⟩
   ·rw [hlR]
    exact r1.tch t14 m1.hmb m1.m1
   ·intro hm
    have:=m1.arms.hab;have:=List.mem_singleton.1 hm;omega
   ·obtain ⟨w, hw, e⟩ := nbR a ha
    have:=(m1.arms.net w hw).2.2;have:=List.mem_singleton.1 hm;omega
   ·have hm := List.mem_singleton.1 hm
    rcases s3 b hb with hb|hb
    ·have := lt1 b (armB (List.mem_cons_of_mem _ hb))
     omega
    ·omega
   ·rcases sub3 _ hb with hb | hb
    ·exact m1.m1 hb
    ·have := m1.hmb
     omega
   ·obtain ⟨w, hw, e'⟩ := nbR a ha
    exact m1.m3 w hw (e'.trans e)
   ·obtain ⟨p1, p2, p3⟩ := m1.b1 b hb
    refine⟨p1,fun hm=>?_,fun a ha e=>?_⟩
    ·rcases sub3 _ hm with hm | hm
     ·exact p2 hm
     ·have := lt1 b (bufB hb)
      omega
    ·obtain ⟨w, hw, e'⟩ := nbR a ha
     exact p3 w hw (e'.trans e)
   ·rw [hlR]
    exact m1.len
  have subM:∀b∈z1e2 mb ab R' bv1,b∈z1e2 mb ab az1 bv1∨h1.next≤b:=fun b hb=>by
   rcases List.mem_cons.1 hb with hb|hb
   ·exact .inl (by rw[hb];exact List.mem_cons_self)
   rcases List.mem_append.1 hb with hb|hb
   ·exact .inl (bufB hb)
   ·exact(sub3 b hb).imp armB (fun h=>by omega)
  have tA:Tch (z1e2 mb ab az bv) H h4:=t1.trans' t14 fun b hb=>s1 b (armB hb);have hle:H.next≤h1.next:=t1.1
  have subA:∀b∈z1e2 mb ab R' bv1,b∈z1e2 mb ab az bv∨H.next≤b:=fun b hb=>by
   rcases subM b hb with hb|hb
   ·exact s1 b hb
   ·exact .inr (by omega)
  have hph:h.next<h4.next:=by
   have:=t14.1;omega
  have hpS:h.next ∉ z1e2 mb ab R' bv1:=fun hb=>by
   rcases subA _ hb with hb|hb
   ·exact hS hb
   ·omega
  have kh4:RowH h4 h.next z3c0 [.int .i64 0,.int .i64 0,.int .i64 0]:=kh1.tch t14 hh1 fun hb=>hS1 _ (armB hb) rfl;have hT4:HasTz h4:=hT1.tch t14 (m1.arms.tz hT1);have nbs1:nbs=R'.map (·.nb):=by rw[eN,n3,n1]
  cases hz:(z4a c.toNat (atM (z6d m c)) (az1.map z116)).1 with
  |some z=>
   rw[hz] at q4;refine y7 rfl ?_
   have hzb:=z40c (c:=c.toNat) (B:=atM (z6d m c)) (az1.map z116) z (fun a ha x hx=>by
    obtain⟨y,hy,rfl⟩:=List.mem_map.1 ha;obtain⟨w,hw,rfl⟩:=List.mem_map.1 hx;exact(hB1 y hy).2 w hw) hz
   have r4:=m4.row;have c24:=y5 r4 (show (z4a8 ab R'.length bv1 (z128 m.2.1 m.2.2))[2]? =some (.int .i64 ((z128 m.2.1 m.2.2:Nat):Int)) from rfl)
   have hqm:h1.next≠mb:=by
    have:=m1.hmb;omega
   have hz2:=hzb.1;refine Wp.obind (y5 q4 (show (z45a 0 (atM (z6d m c)) (some z))[1]? =some (.int .i64 (z.2:Int)) from rfl)) ?_;refine Wp.obind (z4 _ _) (Wp.obind (z10 _ _) (Wp.obind (z8 _ _ _) (Wp.obind c24 (Wp.obind (z4 _ _) ?_))))
   (((with_reducible refine ye ?_ ?_ ?_);omega;omega))
   refine Wp.st1 q4 (show 1<3 by decide) rfl fun h5 q5 t5 n5=>?_;have r5:=r4.tch t5 m4.hmb (by simpa using hqm.symm);have c25:=y5 r5 (show (z4a8 ab R'.length bv1 (z128 m.2.1 m.2.2))[2]? =some (.int .i64 ((z128 m.2.1 m.2.2:Nat):Int)) from rfl);refine Wp.obind (y5 q5 (show ((z45a 0 (atM (z6d m c)) (some z)).set 1 _)[2]? =some (.int .i64 ((atM (z6d m c):Int)+1)) from rfl)) ?_;refine Wp.obind (z4 _ _) (Wp.obind (z10 _ _) (Wp.obind (z8 _ _ _) (Wp.obind c25 (Wp.obind (z4 _ _) ?_))))
   (((with_reducible refine ye ?_ ?_ ?_);omega;omega))
   refine Wp.st1 q5 (show 2<3 by decide) rfl fun h6 q6 t6 n6=>?_;have t46:Tch [h1.next] h4 h6:=t5.trans t6
   have hq1:h1.next ∉ z1e2 mb ab R' bv1:=fun hb=>by
    rcases subM _ hb with hb|hb
    ·have := lt1 _ hb
     omega
    ·rcases List.mem_cons.1 ‹h1.next ∈ z1e2 mb ab R' bv1› with hb | hb
     ·exact hqm hb
     rcases List.mem_append.1 hb with hb|hb
     ·have := lt1 _ (bufB hb)
      omega
     ·rcases sub3 _ hb with hb | hb
      ·exact hqS hb
      ·omega
   have m6:=m4.tch t46 (fun b hb hm=>hq1 (List.mem_singleton.1 hm▸hb)) (fun a ha hm=>by
    obtain⟨w,hw,e⟩:=nbR a ha;have:=(m1.arms.net w hw).2.2;have:=List.mem_singleton.1 hm;omega)
   obtain⟨h7,az7,bv7,e7,m7,a7,n7,s7,nn7,t7⟩:=empty_r (n:=n) (d:=d+3) (by omega) m6;refine Wp.callN e7 ?_
   (((with_reducible refine ye ?_ ?_ ?_);omega;omega))
   have hq6:h1.next<h6.next:=by omega
   have q7:=q6.tch t7 hq6 hq1;refine Wp.obind (y12 q7 rfl) ?_;rw[ze];have kh7:=((kh4.tch t46 hph (by simpa using (show h.next≠h1.next by omega))).tch t7 (by omega) hpS);refine Wp.stAll kh7 rfl rfl rfl fun h8 q8 t8 n8=>?_;refine Wp.obind (y12 q8 rfl) ?_
   have hfd:z155 m (c::s.drop (i+1)) i=(i+1,some (z.1,(z.2:Int) - ((z6d m c).2.2:Int),(z6d m c).2.1.length),((z4a c.toNat (atM (z6d m c)) (z6d m c).1).2.map z3ae,[],0)):=by
    rw[z155,show (z6d m c).1=az1.map z116 by rw[e2],hz]
   have hS7:∀b∈z1e2 mb ab az7 bv7,b≠h.next:=fun b hb e=>hpS (e▸s7 b hb)
   have m8:=m7.tch t8 (fun b hb hm=>hS7 b hb (List.mem_singleton.1 hm)) (fun a ha hm=>by
    have:a.nb∈az7.map (·.nb):=List.mem_map_of_mem ha;rw[n7,n3] at this;obtain⟨w,hw,e⟩:=List.mem_map.1 this;exact hnb1 w hw (e.trans (List.mem_singleton.1 hm)))
   have key:=hq h8 (z1e2 mb ab az7 bv7) (z.1,(z.2:Int) - ((z6d m c).2.2:Int),(z6d m c).2.1.length) (by rw[hfd]) (by
    rw[hfd];refine⟨az7,bv7,m8,?_,rfl,?_,Nat.zero_le _,fun a ha=>?_,fun h=>absurd rfl h⟩
    ·rw[a7,a3,e2]
    ·rw[nbs1,n7]
    ·have : z116 a ∈ az7.map z116 := List.mem_map_of_mem ha
     rw[a7] at this;obtain⟨w,_,e⟩:=List.mem_map.1 this;have e':([]:List WayW)=a.l.map (·.2):=congrArg Prod.snd e;have:a.l=[]:=List.map_eq_nil_iff.1 e'.symm;rw[this];exact⟨Nat.zero_le _,fun _ h=>nomatch h⟩) (by
    have tB:Tch (z1e2 mb ab az bv) H h7:=(tA.trans' t46 fun b hb=>by
     rw[List.mem_singleton.1 hb];exact .inr hle).trans' t7 subA
    exact(tB.mono fun b hb=>.inl (List.mem_cons_of_mem _ hb)).trans (t8.mono fun b hb=>.inl (by rw[List.mem_singleton.1 hb];exact List.mem_cons_self))) (fun b hb=>subA b (s7 b hb))
   rw[hfd] at key
   have ev:(((z45a 0 (atM (z6d m c)) (some z)).set 1 (.int .i64 ((z.2:Int) - ((z128 m.2.1 m.2.2:Nat):Int)))).set 2 (.int .i64 ((atM (z6d m c):Int)+1 - ((z128 m.2.1 m.2.2:Nat):Int))))=feedC (some (z.1,(z.2:Int) - ((z6d m c).2.2:Int),(z6d m c).2.1.length)):=by
    show [AV.int .i64 ((0+z.1:Nat):Int),AV.int .i64 ((z.2:Int) - ((z128 m.2.1 m.2.2:Nat):Int)),AV.int .i64 ((atM (z6d m c):Int)+1 - ((z128 m.2.1 m.2.2:Nat):Int))]=[AV.int .i64 (z.1:Int),AV.int .i64 ((z.2:Int) - ((z128 m.2.1 m.2.2:Nat):Int)),AV.int .i64 ((z202 m.2.1 c).length:Int)];rw[Nat.zero_add, ←hat]
    congr 3
    congr 1
    omega
   rw[ev,el];exact Wp.ret key
  |none=>
   refine y6 rfl ?_
   (((with_reducible refine ye ?_ ?_ ?_);omega;omega))
   rw[el]
   have hfd:z155 m (c::s.drop (i+1)) i=z155 ((z4a c.toNat (atM (z6d m c)) (z6d m c).1).2,(z6d m c).2.1,(z6d m c).2.2) (s.drop (i+1)) (i+1):=by
    rw[z155,show (z6d m c).1=az1.map z116 by rw[e2],hz]
   rw[hfd] at hk hq
   have key:MatS h4 mb ab (z1e2 mb ab R' bv1) nbs ((z4a c.toNat (atM (z6d m c)) (z6d m c).1).2,(z6d m c).2.1,(z6d m c).2.2):=by
    refine⟨R',bv1,m4,by rw[a3,e2],rfl,nbs1,hu1,?_,fun _=>w3 hz⟩
    have:(z6d m c).2.2+(z6d m c).2.1.length=atM (z6d m c)+1:=by
     unfold atM;omega
    show z2f5 ((z6d m c).2.2+(z6d m c).2.1.length) R';rw[this];exact b3
   refine z3ad hn hsl k (i+1) fu _ (z1e2 mb ab R' bv1) h4 (by omega) (by omega) (by show (z6d m c).2.2+(z6d m c).2.1.length+k<2000000;omega) key hT4 (by rw[t14.2.1,hx1]) kh4 hph hpS hnb (fun H' S' z' k' t' s' l'=>hk H' S' z' k' (tA.trans' t' subA) (fun b hb=>?_) l') (fun H' S' z z' k' t' s'=>hq H' S' z z' k' ((tA.mono fun b hb=>.inl (List.mem_cons_of_mem _ hb)).trans' t' fun b hb=>?_) fun b hb=>?_)
   ·rcases s' b hb with hb | hb
    ·exact subA b hb
    ·exact .inr (Nat.le_trans tA.1 hb)
   ·rcases List.mem_cons.1 hb with hb | hb
    ·exact .inl (by rw[hb];exact List.mem_cons_self)
    ·exact(subA b hb).imp (fun h=>List.mem_cons_of_mem _ h) id
   ·rcases s' b hb with hb | hb
    ·exact subA b hb
    ·exact .inr (Nat.le_trans tA.1 hb)
end
structure Frag where
 e:Bool
 F:Nat→Prop
 L:Nat→Prop
 E:Nat→Nat→Prop
 K:Nat→Nat→Prop
inductive Walk (a:Frag):Nat→List Nat→Nat→Prop
 |nil {q:Nat}:Walk a q [] q
 |cons {q r q' c:Nat} {s:List Nat} (e:a.E q r) (k:a.K r c) (w:Walk a r s q'):Walk a q (c::s) q'
def Fits1(a:Frag):List Nat→Prop
 |[]=>False
 |c::s=>∃q q',a.F q∧a.K q c∧a.L q'∧Walk a q s q'
structure Rec (a:Frag) (P:List Nat→Prop) (lo hi:Nat):Prop where
 e:a.e=true↔P []
 f:∀{c:Nat} {s:List Nat},Fits1 a (c::s)↔P (c::s)
 le:lo≤hi
 F:∀{q},a.F q→lo≤q∧q<hi
 L:∀{q},a.L q→lo≤q∧q<hi
 E:∀{q r},a.E q r→(lo≤q∧q<hi)∧lo≤r∧r<hi
 K:∀{q c},a.K q c→lo≤q∧q<hi
section
variable {a b:Frag}{P Q:List Nat→Prop}{lo mid hi u:Nat}{w:List Nat}
theorem Walk.left(ha:Rec a P lo mid)(hb:Rec b Q mid hi){X:Nat→Nat→Prop}{f:Frag}(hE:∀{q r},f.E q r→a.E q r∨b.E q r∨X q r)(hX:∀{q r},X q r→r<mid→False)(hK:∀{q c},f.K q c→a.K q c∨b.K q c){q q':Nat}{s:List Nat}(v:Walk f q s q'):
  q<mid→q'<mid→Walk a q s q':=by
 have back:∀{q q':Nat} {s:List Nat},Walk f q s q'→mid≤q→(∀{q r},X q r→mid≤r)→mid≤q':=by
  intro q q' s v
  induction v with
  |nil=>exact fun h _=>h
  |cons e k _ ih=>
   intro hq hx
   rcases hE e with h|h|h
   ·have := (ha.E h).1
    omega
   ·exact ih (hb.E h).2.1 hx
   ·exact ih (hx h) hx
 have hx2:∀{q r},X q r→mid≤r:=fun h=>Nat.le_of_not_lt fun h2=>hX h h2
 induction v with
 |nil=>exact fun _ _=>.nil
 |cons e k w ih=>
  intro h1 h2
  rcases hE e with h|h|h
  ·refine .cons h ?_ (ih (ha.E h).2.2 h2)
   rcases hK k with k|k
   ·exact k
   ·have := hb.K k
    have:=(ha.E h).2;omega
  ·have := (hb.E h).1
   omega
  ·have := back w (hx2 h) hx2
   omega
end
open Go.RowKit Abs
open Go.RowKit Abs
section
variable {N:Nt}(k:NtOk N)
include k
end
def oneB(c:UInt8):Nd:=z3be c.toNat
theorem at?_app(pre rest:Bytes)(i:Nat):at? (pre++rest) (pre.length+i)=(rest[i]?).map UInt8.toNat:=by
 unfold at?
 rw[List.getElem?_append_right (by omega),show pre.length+i - pre.length=i by omega]
theorem z42c{r:Res}:∀(rest pre:Bytes) (l:List Nd),FlatP (z285 (pre++rest)) (pre++rest) l pre.length r→r=.ok (z203 3 (l++rest.map oneB),(pre++rest).length)
 |[],pre,l,k=>by
  cases k with
  |stop s=>simp
  |bad s h=>simp at s
  |more s h m=>simp at s
 |c::rest,pre,l,k=>by
  have hc:=at?_app pre (c::rest) 0;rw[Nat.add_zero] at hc
  have hp:z285 (pre++c::rest) pre.length=.ok (z3be c.toNat,pre.length+1):=by
   unfold z285;rw[hc];rfl
  cases k with
  |stop s=>simp at s;omega
  |bad s h=>rw[hp] at h;cases h
  |more s h m=>
   rw[hp] at h;cases h;have e:pre++c::rest=(pre++[c])++rest:=by simp
   have m':FlatP (z285 ((pre++[c])++rest)) ((pre++[c])++rest) (l++[oneB c]) (pre++[c]).length r:=by
    rw[←e,List.length_append];exact m
   have:=z42c rest (pre++[c]) (l++[oneB c]) m';rw[this, ←e]
   simp
def litT(u:Bytes):Nd:=z203 3 (u.map oneB)
theorem tree_lit{u:Bytes}{r:Except Nat Nd}(h:TreeP u 1 r):r=.ok (litT u):=by
 generalize hk:(1:Int)=k at h
 cases h with
 |lit a=>
  have:=z42c (r:=_) u [] [] (by rw[List.nil_append];exact a);rw[this];rfl
 |glob a=>cases hk
 |re_bad a=>cases hk
 |re_end a n=>cases hk
 |re a=>cases hk
section
variable {h:AHeap}{mb ab:Nat}{S nbs:List Nat}{m:MS}
theorem MatS.nlt(k:MatS h mb ab S nbs m):∀b∈nbs,b<h.next:=by
 obtain⟨az,bv,k1,k2,rfl,rfl,_⟩:=k;intro b hb;obtain⟨a,ha,rfl⟩:=List.mem_map.1 hb;exact(k1.arms.net a ha).2.2
end
section
variable {n d mb ab:Nat}{h:AHeap}{S nbs:List Nat}{s:Bytes}{m:MS}{v:AV}{ps:List (Int×Bytes)}{ts:List Nd}
theorem feed_ok(hn:18446744073709551616<n)(km:MatS h mb ab S nbs m)(hT:HasTz h)(hx:h.ex=[])(hs:s.length<2000000)(hb:m.2.2+m.2.1.length+s.length<2000000):
  ∃h' S',world n (d+6) 19 [.ptr mb 0,strA s] h=some (.ret (.tup [.int .i64 ((z155 m s 0).1:Int),.agg (feedC (z155 m s 0).2.1),.bool (z155 m s 0).2.1.isSome]),h')∧MatS h' mb ab S' nbs (z155 m s 0).2.2∧Tch S h h'∧∀b∈S',b∈S∨h.next≤b:=by
 suffices hK:Wp (world n (d+6) 19 [.ptr mb 0,strA s] h) fun r h'=>∃S',r=.ret (.tup [.int .i64 ((z155 m s 0).1:Int),.agg (feedC (z155 m s 0).2.1),.bool (z155 m s 0).2.1.isSome])∧MatS h' mb ab S' nbs (z155 m s 0).2.2∧Tch S h h'∧∀b∈S',b∈S∨h.next≤b by
  obtain⟨_,h',e,S',rfl,k⟩:=hK;exact⟨h',S',e,k⟩
 rw[z1df];unfold z73;have ll:=z5b s;refine y9 (Mem.nil [] h) fun h2 M2=>?_;have t2:=M2.tch;have hlt:=M2.at0.2.1;have n2:=t2.1
 have hS:h.next ∉ S:=fun hb=>by
  have:=km.lt _ hb;omega
 have hnb:∀b∈nbs,b≠h.next:=fun b hb e=>by
  have:=km.nlt b hb;omega
 refine Wp.outK (eqMat mb 0 h2) (Wp.obind (z5 _) (y6 rfl ?_));refine y1a fun k16 ek=>?_;refine z3ad (n:=n) (d:=d) (h:=h) (nbs:=nbs) hn hs s.length 0 n m S h2 (by omega) (Nat.zero_add _) hb (km.tch t2 (fun _ _=>by simp) (fun _ _=>by simp)) (hT.tch t2 (by simp)) (by rw[t2.2.1,hx]) M2.at0.1 hlt hS hnb (fun H' S' z' k' t' s' l'=>?_) (fun H' S' z z' k' t' s'=>?_)
 ·rw [List.drop_zero] at z' k' l'
  rw[ek,ze];have kh:=M2.at0.1.tch t' hlt hS;refine Wp.stAll kh rfl rfl rfl fun h4 k4 t4 n4=>?_;refine Wp.obind (y12 k4 rfl) ?_;rw[z'];refine Wp.ret ⟨S',by rw[l',ll];rfl,k'.tch t4 (fun b hb hm=>?_) (fun b hb hm=>hnb b hb (List.mem_singleton.1 hm)),?_,fun b hb=>(s' b hb).imp id fun h=>by omega⟩
  ·have hm := List.mem_singleton.1 hm
   rcases s' b hb with hb|hb
   ·exact hS (hm▸hb)
   ·omega
  ·refine ((t2.mono fun b hb => nomatch hb).trans t').trans' t4 fun b hb => ?_
   rw[List.mem_singleton.1 hb];exact .inr (Nat.le_refl _)
 ·rw [List.drop_zero] at z' k' ⊢
  rw[z'];refine⟨S',rfl,k',(t2.mono fun b hb=>nomatch hb).trans' t' fun b hb=>?_,fun b hb=>(s' b hb).imp id fun h=>by omega⟩
  rcases List.mem_cons.1 hb with hb|hb
  ·rw [hb]
   exact .inr (Nat.le_refl _)
  ·exact .inl hb
def z429(ts:List Nd):MS:=(ts.map fun t=>(za4 t,[]),[],0)
theorem bldMat(ab L:Nat):z2d3 Tryd.prog TMat [(0,.sl ab 0 L 2)]=some (z4a8 ab L .nsl 0):=by kernel_rfl
theorem new_ok(hn:1000<n)(k:May n d ps ts)(hx:h.ex=[])(kp:Slc h.next h 2 v (ps.map z419)):∃h' mb ab S nbs,world n (d+3) 16 [v] h=some (.ret (.tup [.ptr mb 0,.int .i64 0]),h')∧MatS h' mb ab S nbs (z429 ts)∧Tch [] h h'∧(∀b∈S,h.next≤b)∧(∀b∈nbs,h.next≤b)∧mb<h'.next∧h.next≤mb:=by
 suffices hK:Wp (world n (d+3) 16 [v] h) fun r h'=>∃mb ab S nbs,r=.ret (.tup [.ptr mb 0,.int .i64 0])∧MatS h' mb ab S nbs (z429 ts)∧Tch [] h h'∧(∀b∈S,h.next≤b)∧(∀b∈nbs,h.next≤b)∧mb<h'.next∧h.next≤mb by
  obtain⟨_,h',e,mb,ab,S,nbs,rfl,k⟩:=hK;exact⟨h',mb,ab,S,nbs,e,k⟩
 rw[z3c3];unfold z177;obtain⟨ab,h1,az,e1,t1,ka,ha,hab,hblk,hnbs,hB⟩:=z3b8 hn k hx kp;refine Wp.callN e1 (Wp.obind (zf1 _ _) (Wp.obind (zf0 _ _ _) (Wp.obind (z4 _ _) ?_)))
 ((with_reducible refine Wp.lett ?_))
 refine y6 rfl ?_;refine Wp.obind (bldMat _ _) ?_;refine y16 (Mem.nil [] h1) rfl fun h2 M2=>?_;have t2:=M2.tch
 have hlen:az.length=ts.length:=by
  have:=congrArg List.length ha;rw[List.length_map,List.length_map] at this;exact this
 have hts:=k.2.2.len;have h8:=k.2.1;have n1:=t1.1;have hl:=M2.at0.2.1;have hal:=ka.hab;refine Wp.ret ⟨h1.next,ab,z1e2 h1.next ab az .nsl,az.map (·.nb),rfl,⟨az,.nsl,⟨M2.at0.1,hl,ka.tch t2 (by simp) (fun _ _=>by simp) (fun _ _=>by simp),.inl ⟨rfl,rfl⟩,fun hb=>?_,fun a ha e=>?_,(fun _ h=>nomatch h),by omega⟩,ha,rfl,rfl,Nat.zero_le _,fun a ha=>?_,fun h=>absurd rfl h⟩,t1.trans t2,fun b hb=>?_,fun b hb=>?_,hl,n1⟩
 ·rw [hblk] at hb
  have:=List.mem_singleton.1 hb;omega
 ·have := (ka.net a ha).2.2
  omega
 ·have := hB a ha
  exact⟨Nat.le_trans this.1 (Nat.zero_le _),fun x hx=>absurd (this.2 x hx) (Nat.not_lt_zero _)⟩
 ·rcases List.mem_cons.1 hb with hb | hb
  ·omega
  ·rw [hblk] at hb
   have hb:b∈[ab]:=hb;rw[List.mem_singleton.1 hb];exact hab
 ·obtain ⟨a, ha, rfl⟩ := List.mem_map.1 hb
  exact hnbs a ha
end
theorem z442{n d:Nat}{k:Int}{u:Bytes}{t:Nd}(hk:k=1∨k=2∨k=3)(hu:u.length≤64)(ht:∀r,TreeP u k r→r=.ok t)(he:z12a t=false)(hn:18446744073709551620<n)(hd:1100≤d):z406 n d (k,u) t:=by
 obtain⟨D,rfl⟩:∃D,d=D+3:=⟨d - 3,by omega⟩;obtain⟨r,r1,_,r3⟩:=(z247 (u:=u) (by omega) hk).2 (by omega)
 obtain rfl:=ht r r1
 have hz:=z1f0 r1;refine⟨r1,hu,he,fun h hx=>⟨of_ok (z248 r1) (by omega) (by omega) hn (fun h hx=>r3 (by omega) (by omega) hx) (by rw[hx];rfl),?_⟩⟩;have:=z3f7 (n:=n) (D:=D+3) (k:=k) (u:=u) (t:=t) (h:=h) (by omega) (by omega) (by omega) (fun h hx=>r3 (by omega) (by omega) hx) (by rw[hx];rfl);rw[he] at this;exact this
def exP:Nd:=.mk 6 z8e [z3be 97]
abbrev exV:Bytes:=[97,43]
theorem exV0:¬z449 exV 0:=by unfold z449;decide
theorem exV_part:PartP exV 0 (.ok (exP,2)):=PartP.sign (i:=0) (j:=1) (t:=z3be 97) (.one (c:=97) rfl (by unfold z111;decide) (by decide)) (by decide)
theorem exV_row:RowP exV [] 0 (.ok (exP,2)):=.more exV0 exV_part (RowP.stop (l:=[exP]) (i:=2) (.inl rfl))
theorem z3f1:AltP exV [] 0 (.ok (exP,2)):=AltP.last (l:=[]) (t:=exP) exV_row (by decide)
theorem exV_tree(r:Except Nat Nd)(h:TreeP exV 3 r):r=.ok exP:=by
 generalize hk:(3:Int)=k at h
 cases h with
 |lit a=>cases hk
 |glob a=>cases hk
 |re_bad a=>cases ze1 a z3f1
 |re_end a n=>
  cases ze1 a z3f1
  exact absurd rfl n
 |re a=>
  cases ze1 a z3f1
  rfl
abbrev exPs:List (Int×Bytes):=[(1,[98]),(3,exV)]
abbrev exTs:List Nd:=[litT [98],exP]
theorem exMay{n d:Nat}(hn:18446744073709551620<n)(hd:1100≤d):May n d exPs exTs:=
 ⟨by decide,by decide,.cons (z442 (.inl rfl) (by decide) (fun r h=>tree_lit h) rfl hn hd) (.cons (z442 (.inr (.inr rfl)) (by decide) exV_tree rfl hn hd) .nil)⟩
set_option maxRecDepth 100000 in
theorem ex_first:zef (exTs.map fun t=>(za4 t,[])) [120,97,98] 0=some (1,1,2):=by kernel_rfl
set_option maxRecDepth 100000 in
theorem ex_feed1:(z155 (z429 exTs) [120,97,98] 0).1=2:=by kernel_rfl
set_option maxRecDepth 100000 in
theorem ex_feed2:(z155 (z429 exTs) [120,97,98] 0).2.1=some (1,1,2):=by kernel_rfl
theorem flatHit:flatB Tryd.prog z3c0 [1,1,1]=true:=by kernel_rfl
theorem eqHit(a b c x y z:Int):zb2 Tryd.prog z3c0 (.agg [.int .i64 a,.int .i64 b,.int .i64 c]) (.agg [.int .i64 x,.int .i64 y,.int .i64 z])=some ((a == x)&&((b == y)&&((c == z)&&true))):=eq_flat flatHit (z355 rfl (z263 _ _ _) (z355 rfl (z263 _ _ _) (z355 rfl (z263 _ _ _) rfl)))
theorem keepA_w(n d:Nat)(h:AHeap):world n (d+1) 24 [strA [97]] h=some (.ret (strA [97]),h):=by
 apply Wp.eq;rw[z36a];refine y3c ?_
 suffices hK:Wp (z144 (world n d) n [97] h) fun r h'=>r=.ret (strA [97])∧h'=h from hK.mono fun r h' ⟨e,t⟩=>⟨by rw[t];exact(Tch.refl [] h).above,by rw[e];rfl,e,rfl⟩
 exact⟨.ret (strA [97]),h,by kernel_rfl,rfl,rfl⟩
theorem bldPats(h:AHeap):z16e Tryd.prog h 22 2 [(0,.agg ([.int .i64 1,strA ([98]:Bytes)]:List AV)),(1,.agg ([.int .i64 3,strA ([97,43]:Bytes)]:List AV))]=zcb h TPat [.int .i64 1,strA [98],.int .i64 3,strA [97,43]] 2 2:=by kernel_rfl
set_option maxRecDepth 100000 in
theorem works_w{n d:Nat}{h:AHeap}(hn:18446744073709551620<n)(hd:1200≤d)(hT:HasTz h)(hx:h.ex=[]):world n (d+1) 12 [] h=some (.ret (.bool true),h):=by
 apply Wp.eq;rw[z332];refine y3c ?_
 suffices hK:Wp (zf9 (world n d) n h) fun r h'=>r=.ret (.bool true)∧Tch [] h h' from hK.mono fun r h' ⟨e,t⟩=>⟨t.above,by rw[e];rfl,e,rfl⟩
 obtain⟨D,rfl⟩:∃D,d=D+6:=⟨d - 6,by omega⟩;unfold zf9;have hxM:∀{h1:AHeap} {rs:List zd7},Abs.Mem [] h h1 rs→h1.ex=[]:=fun M=>by rw[M.ex,hx]
 have hTM:∀{h1:AHeap} {rs:List zd7},Abs.Mem [] h h1 rs→HasTz h1:=fun M=>hT.tch M.tch (by simp);refine y32 (Mem.nil [] h) (bldPats h) rfl (by rw[hx];rfl) fun h1 M1=>?_;have slc:∀{h2:AHeap},RowH h2 h.next TPat [.int .i64 1,strA [98],.int .i64 3,strA [97,43]]→h.next<h2.next→Slc h2.next h2 2 (.sl h.next 0 2 2) (exPs.map z419):=fun k hb=>k.slc (ls:=exPs.map z419) rfl (by decide) (by decide) hb;obtain⟨h2,mb,ab,S,nbs,e2,km,t2,hS,hnb,hm1,hm2⟩:=new_ok (n:=n) (d:=D+3) (h:=h1) (by omega) (exMay hn (by omega)) (hxM M1) (slc M1.at0.1 M1.at0.2.1);refine Wp.callN e2 ?_;have M2:=M1.keep t2
 repeat(first|(with_reducible first|refine y8 (fun _ _=>?_)|refine Wp.lett ?_|(apply Wp.obind;first|exact z4 _ _|exact z5 _|exact zf1 _ _|exact zf0 _ _ _))|((with_reducible refine y6 ?_ ?_);first|(with_reducible rfl)|((with_reducible apply z17c);omega))|(with_reducible first|(apply Wp.outK;exact eqMat _ _ _)|refine yd (by assumption) ?_))
 obtain⟨h3,e3,t3⟩:=z160 (n:=n) (d:=D) (h:=h2) (s:=[120,97,98]) hn (exMay hn (by omega)) (hxM M2) (hTM M2) (slc M2.at0.1 M2.at0.2.1) (by decide);rw[ex_first,Option.isSome_some] at e3;refine Wp.callN e3 ?_;have M3:=M2.keep t3;have km3:=km.tch t3 (fun _ _=>by simp) (fun _ _=>by simp);refine Wp.obind (zf1 _ _) (Wp.obind (z11 _) (Wp.obind (zf0 _ _ _) (Wp.obind (z5 _) ?_)));refine y9 (Mem.nil [] h3) fun h4 N4=>?_;rw[ze];refine y10 N4 rfl rfl rfl fun h5 N5=>?_;have t35:=N5.tch;have t05:Tch [] h h5:=M3.tch.trans t35;obtain⟨h6,S',e6,km6,t6,s6⟩:=feed_ok (n:=n) (d:=D) (s:=[120,97,98]) (by omega) (km3.tch t35 (fun _ _=>by simp) (fun _ _=>by simp)) (hT.tch t05 (by simp)) (by rw[t05.2.1,hx]) (by decide) (by decide);rw[ex_feed1,ex_feed2,Option.isSome_some] at e6;refine Wp.callN e6 ?_
 have hpS:h3.next ∉ S:=fun hb=>by
  have:=km.lt _ hb;have:=t3.1;omega
 have r6:=N5.at0.1.tch t6 N5.at0.2.1 hpS;have hp6:h3.next<h6.next:=Nat.lt_of_lt_of_le N5.at0.2.1 t6.1;refine Wp.obind (zf1 _ _) (Wp.obind (z4 _ _) (Wp.obind (zf0 _ _ _) (Wp.obind (z11 _) (Wp.obind (extT_2 _ _ _ _) (Wp.obind (z5 _) ?_)))));refine y9 (Mem.nil [] h6) fun h7 K7=>?_;rw[ze];refine y10 K7 rfl rfl rfl fun h8 K8=>?_;have t68:=K8.tch
 have t08:Tch [] h h8:=(t05.trans' t6 fun b hb=>by
  have:=hS b hb;have:=M1.tch.1
  right
  omega).trans t68
 have r8:z16 h8 3 (.ptr h3.next 0)=some [.int .i64 1,.int .i64 1,.int .i64 2]:=y12 (r6.tch t68 hp6 (by simp)) rfl;have q8:z16 h8 3 (.ptr h6.next 0)=some [.int .i64 1,.int .i64 1,.int .i64 2]:=y12 K8.at0.1 rfl;have eq1:zb2 Tryd.prog z3c0 (.agg [.int .i64 1,.int .i64 1,.int .i64 2]) (.agg [.int .i64 1,.int .i64 1,.int .i64 2])=some true:=eqHit 1 1 2 1 1 2;have kw:=keepA_w n (D+5) h8
 repeat(first|(with_reducible first|refine y8 (fun _ _=>?_)|refine Wp.lett ?_|(apply Wp.obind;first|exact r8|exact q8|exact eq1|exact z6e _))|((with_reducible refine y7 ?_ ?_);first|(with_reducible rfl)|((with_reducible apply z66);omega))|(with_reducible first|(apply Wp.callN;exact kw)|refine yd (by assumption) ?_))
 exact Wp.ret ⟨rfl,t08⟩
def z217(s:Bytes)(f t:Nat):Bytes:=(s.drop f).take (t - f)
def z486(N:Nt)(s:Bytes)(f i:Nat):Bool×Nat:=runN N (false,0) (z217 s f i)
def z156(N:Nt)(s:Bytes)(g i:Nat):List WayW:=((List.range' g (i - g)).map fun f=>(z486 N s f i,f)).filter fun x=> !z16d N x.1
def z28b(N:Nt)(s:Bytes)(g t:Nat):Option Nat:=(List.range' g (t - g)).find? fun f=>zeb N (z217 s f t)
section
variable {N:Nt}{s:Bytes}{f g i t:Nat}
theorem z48a:z217 s f f=[]:=by
 unfold z217;rw[Nat.sub_self,List.take_zero]
theorem z489(hf:f≤i)(hi:i<s.length):z217 s f (i+1)=z217 s f i++[s[i]]:=by
 unfold z217;rw[show i+1 - f=(i - f)+1 by omega, ←List.take_append_getElem (l:=s.drop f) (i:=i - f) (by rw[List.length_drop];omega),List.getElem_drop]
 congr 2
 congr 1
 omega
theorem z485:z486 N s f f=(false,0):=by
 unfold z486;rw[z48a];rfl
theorem z374(hf:f≤i)(hi:i<s.length):z486 N s f (i+1)=stepN N (z486 N s f i) (s[i]).toNat:=by
 unfold z486;rw[z489 hf hi];unfold runN;rw[List.foldl_append];rfl
theorem z426(c:Nat):∀l:List WayW,z34b N c l=(l.map fun x=>(stepN N x.1 c,x.2)).filter fun x=> !z16d N x.1
 |[]=>rfl
 |x::l=>by
  rw[z34b,List.map_cons,List.filter_cons, ←z426 c l]
  cases z16d N (stepN N x.1 c)<;>rfl
theorem z2ce(c:Nat):∀l:List WayW,((l.filter fun x=> !z16d N x.1).map fun x=>(stepN N x.1 c,x.2)).filter (fun x=> !z16d N x.1)=(l.map fun x=>(stepN N x.1 c,x.2)).filter fun x=> !z16d N x.1
 |[]=>rfl
 |x::l=>by
  rw[List.filter_cons];cases hd:z16d N x.1 with
  |true=>
   have:=z3b1 hd c;rw[if_neg (by decide),z2ce c l,List.map_cons,List.filter_cons];show _=if (!z16d N (stepN N x.1 c))=true then _ else _
   rw[this];rfl
  |false=>
   rw[if_pos (show (!false)=true from rfl),List.map_cons,List.filter_cons,List.map_cons,List.filter_cons,z2ce c l]
theorem z44f(h:g≤i):List.range' g (i+1 - g)=List.range' g (i - g)++[i]:=by
 rw[show i+1 - g=(i - g)+1 by omega,List.range'_concat]
 congr 2
 omega
theorem z371(hg:g≤i)(hi:i<s.length):((((List.range' g (i - g)).map fun f=>(z486 N s f i,f))++[((false,0),i)]).map fun (x:WayW)=>(stepN N x.1 (s[i]).toNat,x.2))=(List.range' g (i+1 - g)).map fun f=>(z486 N s f (i+1),f):=by
 rw[z44f hg,List.map_append,List.map_append,List.map_map]
 congr 1
 ·refine List.map_congr_left fun f hf => ?_
  have:=(List.mem_range'_1.1 hf);show (stepN N (z486 N s f i) (s[i]).toNat,f)=_;rw[z374 (by omega) hi]
 ·show [(stepN N (false, 0) (s[i]).toNat, i)] = [(z486 N s i (i + 1), i)]
  rw[z374 (Nat.le_refl _) hi,z485]
theorem z47c(hg:g≤i)(hi:i<s.length):z34b N (s[i]).toNat (z156 N s g i++[((false,0),i)])=z156 N s g (i+1):=by
 rw[z426,List.map_append,List.filter_append];unfold z156;rw[z2ce, ←List.filter_append, ←List.map_append,z371 hg hi]
theorem z317(c f:Nat):∀l:List WayW,l.foldl (accW N c) (some f)=some f
 |[]=>rfl
 |_::l=>z317 c f l
theorem z3a0(c:Nat):∀l:List WayW,hitW N c none l=(l.find? fun x=>z12b N (stepN N x.1 c)).map (·.2)
 |[]=>rfl
 |x::l=>by
  show l.foldl (accW N c) (accW N c none x)=_;rw[List.find?_cons];have e:accW N c none x=if z12b N (stepN N x.1 c)=true then some x.2 else none:=rfl
  rw[e];cases hd:z12b N (stepN N x.1 c) with
  |true=>
   rw[if_pos rfl];exact z317 c x.2 l
  |false=>
   rw[if_neg (by decide)];exact z3a0 c l
theorem z207(c:Nat):∀l:List WayW,(l.filter fun x=> !z16d N x.1).find? (fun x=>z12b N (stepN N x.1 c))=l.find? fun x=>z12b N (stepN N x.1 c)
 |[]=>rfl
 |x::l=>by
  rw[List.filter_cons,List.find?_cons];cases hd:z16d N x.1 with
  |true=>
   rw[if_neg (by decide),z207 c l,z324 (z3b1 hd c)]
  |false=>
   rw[if_pos (show (!false)=true from rfl),List.find?_cons,z207 c l]
theorem hit_find(hg:g≤i)(hi:i<s.length):hitA (s[i]).toNat i (N,z156 N s g i)=z28b N s g (i+1):=by
 show hitW N (s[i]).toNat none (z156 N s g i++[((false,0),i)])=_
 have e:(z156 N s g i++[((false,0),i)]).find? (fun (x:WayW)=>z12b N (stepN N x.1 (s[i]).toNat))=(((List.range' g (i - g)).map fun f=>(z486 N s f i,f))++[((false,0),i)]).find? fun (x:WayW)=>z12b N (stepN N x.1 (s[i]).toNat):=by
  unfold z156;rw[List.find?_append,List.find?_append,z207]
 rw[z3a0,e]
 have e2:∀l:List WayW,(l.find? fun x=>z12b N (stepN N x.1 (s[i]).toNat)).map (·.2)=((l.map fun x=>(stepN N x.1 (s[i]).toNat,x.2)).find? fun x=>z12b N x.1).map (·.2):=by
  intro l;rw[List.find?_map,Option.map_map];rfl
 rw[e2,z371 hg hi,List.find?_map,Option.map_map];unfold z28b;show Option.map (fun f=>f) _=_;rw[Option.map_id']
 congr 1
end
def z129(s:Bytes)(g t:Nat):List Nt→Option (Nat×Nat)
 |[]=>none
 |N::Ns=>match z28b N s g t with
  |some f=>some (0,f)
  |none=>(z129 s g t Ns).map fun z=>(z.1+1,z.2)
def z2d6(Ns:List Nt)(s:Bytes)(g i:Nat):List z2f6:=Ns.map fun N=>(N,z156 N s g i)
section
variable {s:Bytes}{g i:Nat}
theorem z372(hg:g≤i)(hi:i<s.length):∀Ns:List Nt,(z4a (s[i]).toNat i (z2d6 Ns s g i)).1=z129 s g (i+1) Ns∧(z129 s g (i+1) Ns=none→(z4a (s[i]).toNat i (z2d6 Ns s g i)).2=z2d6 Ns s g (i+1))
 |[]=>⟨rfl,fun _=>rfl⟩
 |N::Ns=>by
  obtain⟨h1,h2⟩:=z372 hg hi Ns
  have e:z4a (s[i]).toNat i (z2d6 (N::Ns) s g i)=match hitA (s[i]).toNat i (N,z156 N s g i) with
   |some f=>(some (0,f),z38e (s[i]).toNat i (N,z156 N s g i)::z2d6 Ns s g i)
   |none=>((z4a (s[i]).toNat i (z2d6 Ns s g i)).1.map (fun z=>(z.1+1,z.2)),z38e (s[i]).toNat i (N,z156 N s g i)::(z4a (s[i]).toNat i (z2d6 Ns s g i)).2):=rfl
  rw[e,hit_find hg hi,z129]
  cases z28b N s g (i+1) with
  |some f=>exact⟨rfl,fun h=>by cases h⟩
  |none=>
   refine⟨congrArg (Option.map fun z:Nat×Nat=>(z.1+1,z.2)) h1,fun h=>?_⟩
   have h3:z129 s g (i+1) Ns=none:=by
    cases hh:z129 s g (i+1) Ns with
    |none=>rfl
    |some z=>rw[hh] at h;cases h
   show z38e (s[i]).toNat i (N,z156 N s g i)::_=(N,z156 N s g (i+1))::z2d6 Ns s g (i+1);rw[h2 h3]
   congr 1
   show (N,z34b N (s[i]).toNat (z156 N s g i++[((false,0),i)]))=_;rw[z47c hg hi]
def z16b(Ns:List Nt)(s:Bytes):Nat→Nat→Option (Nat×Nat×Nat)
 |0,_=>none
 |k+1,t=>match z129 s 0 t Ns with
  |some z=>some (z.1,z.2,t)
  |none=>z16b Ns s k (t+1)
theorem z42d(Ns:List Nt):∀(k i:Nat),i+k=s.length→zef (z2d6 Ns s 0 i) (s.drop i) i=z16b Ns s k (i+1)
 |0,i,h=>by
  rw[List.drop_of_length_le (by omega)];rfl
 |k+1,i,h=>by
  have hi:i<s.length:=by omega
  obtain⟨h1,h2⟩:=z372 (s:=s) (g:=0) (Nat.zero_le i) hi Ns;rw[List.drop_eq_getElem_cons hi,zef,z16b,h1];cases hz:z129 s 0 (i+1) Ns with
  |some z=>rfl
  |none=>
   show zef (z4a (s[i]).toNat i (z2d6 Ns s 0 i)).2 (s.drop (i+1)) (i+1)=_;rw[h2 hz];exact z42d Ns k (i+1) (by omega)
theorem z206(ts:List Nd):zef (ts.map fun t=>(za4 t,[])) s 0=z16b (ts.map za4) s s.length 1:=by
 have:=z42d (s:=s) (ts.map za4) s.length 0 (Nat.zero_add _);rw[List.drop_zero] at this;rw[←this]
 congr 1
 unfold z2d6;rw[List.map_map];rfl
end
section
variable {N:Nt}{s s':Bytes}{t:Nat}
theorem z37a{f:Nat}:z217 s f t=(s.take t).drop f:=by
 unfold z217;rw[List.drop_take]
theorem z3ed(h:s.take t=s'.take t):z28b N s 0 t=z28b N s' 0 t:=by
 unfold z28b
 congr 1
 funext f
 rw[z37a,z37a,h]
theorem z204(h:s.take t=s'.take t):∀Ns:List Nt,z129 s 0 t Ns=z129 s' 0 t Ns
 |[]=>rfl
 |N::Ns=>by rw[z129,z129,z3ed h,z204 h Ns]
theorem find_some{f:Nat}(h:z28b N s 0 t=some f):f<t∧zeb N (z217 s f t)=true∧∀j,j<f→zeb N (z217 s j t)=false:=by
 unfold z28b at h;rw[Nat.sub_zero] at h;have h1:=List.find?_some h;have h2:=List.mem_range'_1.1 (List.mem_of_find?_eq_some h);refine⟨by omega,h1,fun j hj=>?_⟩;obtain⟨_,xa,bs,e,hn⟩:=List.find?_eq_some_iff_append.1 h;have hl:=congrArg (fun l=>l[xa.length]?) e
 have hla:xa.length<t:=by
  have:=congrArg List.length e;rw[List.length_range',List.length_append,List.length_cons] at this;omega
 have ef:xa.length=f:=by
  simp only[List.getElem?_append_right (Nat.le_refl _),Nat.sub_self,List.getElem?_cons_zero] at hl;rw[List.getElem?_range' hla] at hl;have:=Option.some.inj hl;omega
 have hm:j∈xa:=by
  have e2:(List.range' 0 t)[j]? =(xa++f::bs)[j]?:=by rw[e]
  rw[List.getElem?_append_left (by omega),List.getElem?_range' (by omega)] at e2;have e3:=List.mem_of_getElem? e2.symm;rw[show 0+1*j=j by omega] at e3;exact e3
 have:=hn j hm
 simpa using this
theorem find_none(h:z28b N s 0 t=none){j:Nat}(hj:j<t):zeb N (z217 s j t)=false:=by
 unfold z28b at h;have:=List.find?_eq_none.1 h j (List.mem_range'_1.2 (by omega))
 simpa using this
theorem z314:∀{Ns:List Nt} {a f:Nat},z129 s 0 t Ns=some (a,f)→a<Ns.length∧f<t∧∀i N,Ns[i]? =some N→(i<a→∀j,j<t→zeb N (z217 s j t)=false)∧(i=a→zeb N (z217 s f t)=true∧∀j,j<f→zeb N (z217 s j t)=false)
 |[],_,_,h=>nomatch h
 |N::Ns,a,f,h=>by
  rw[z129] at h;cases hf:z28b N s 0 t with
  |some g=>
   rw[hf] at h;cases h;obtain⟨h1,h2,h3⟩:=find_some hf;refine⟨Nat.zero_lt_succ _,h1,fun i M hi=>⟨fun h0=>absurd h0 (Nat.not_lt_zero _),fun h0=>?_⟩⟩;rw[h0] at hi;cases hi;exact⟨h2,h3⟩
  |none=>
   rw[hf] at h;have h:(z129 s 0 t Ns).map (fun z=>(z.1+1,z.2))=some (a,f):=h;cases hz:z129 s 0 t Ns with
   |none=>
    rw[hz] at h;cases h
   |some z=>
    rw[hz] at h;cases h;obtain⟨h1,h2,h3⟩:=z314 hz;refine⟨by rw[List.length_cons];omega,h2,fun i M hi=>?_⟩
    cases i with
    |zero=>
     cases hi;exact⟨fun _ j hj=>find_none hf hj,fun h0=>by omega⟩
    |succ i=>
     have:=h3 i M hi;exact⟨fun h0=>this.1 (by omega),fun h0=>this.2 (by omega)⟩
theorem z271{Ns:List Nt}:∀{k u:Nat} {z:Nat×Nat×Nat},z16b Ns s k u=some z→u≤z.2.2∧z.2.2<u+k∧z129 s 0 z.2.2 Ns=some (z.1,z.2.1)∧∀v,u≤v→v<z.2.2→z129 s 0 v Ns=none
 |0,_,_,h=>nomatch h
 |k+1,u,z,h=>by
  rw[z16b] at h;cases hh:z129 s 0 u Ns with
  |some y=>
   rw[hh] at h;cases h;exact⟨Nat.le_refl _,by show u<_;omega,hh,fun v h1 h2=>absurd h2 (Nat.not_lt.2 h1)⟩
  |none=>
   rw[hh] at h;obtain⟨h1,h2,h3,h4⟩:=z271 (k:=k) h;refine⟨by omega,by omega,h3,fun v h5 h6=>?_⟩
   by_cases e:v=u
   ·rw [e]
    exact hh
   ·exact h4 v (by omega) h6
theorem z31d{Ns:List Nt}{a f to:Nat}(hz:z129 s 0 to Ns=some (a,f)):∀{k u:Nat},u≤to→to<u+k→(∀v,u≤v→v<to→z129 s 0 v Ns=none)→z16b Ns s k u=some (a,f,to)
 |0,_,h1,h2,_=>by omega
 |k+1,u,h1,h2,h3=>by
  rw[z16b]
  by_cases e:u=to
  ·rw[e,hz]
  ·rw [h3 u (Nat.le_refl _) (by omega)]
   exact z31d hz (k:=k) (by omega) (by omega) fun v h4 h5=>h3 v (by omega) h5
theorem z31c{Ns:List Nt}:∀{k u:Nat},(∀v,u≤v→v<u+k→z129 s 0 v Ns=none)→z16b Ns s k u=none
 |0,_,_=>rfl
 |k+1,u,h=>by
  rw[z16b,h u (Nat.le_refl _) (by omega)];exact z31c (k:=k) fun v h1 h2=>h v (by omega) (by omega)
end
abbrev freshW(ts:List Nd):List z2f6:=ts.map fun t=>(za4 t,[])
theorem z3ec{ts:List Nd}{s:Bytes}{a f to:Nat}(h:zef (freshW ts) s 0=some (a,f,to)):1≤to∧to≤s.length∧a<ts.length∧f<to∧(∀(i:Nat) (t:Nd),ts[i]? =some t→(i<a→∀j,j<to→zeb (za4 t) (z217 s j to)=false)∧(i=a→zeb (za4 t) (z217 s f to)=true∧∀j,j<f→zeb (za4 t) (z217 s j to)=false))∧
  zef (freshW ts) (s.take (to - 1)) 0=none∧∀u:Bytes,zef (freshW ts) (s.take to++u) 0=some (a,f,to):=by
 rw[z206] at h;obtain⟨h1,h2,h3,h4⟩:=z271 h;have h1:1≤to:=h1;have h2:to<1+s.length:=h2;have h3:z129 s 0 to (ts.map za4)=some (a,f):=h3;have h4:∀v,1≤v→v<to→z129 s 0 v (ts.map za4)=none:=h4;obtain⟨g1,g2,g3⟩:=z314 h3;rw[List.length_map] at g1;refine⟨h1,by omega,g1,g2,fun i t hi=>g3 i (za4 t) (by rw[List.getElem?_map,hi];rfl),?_,fun u=>?_⟩
 ·rw [z206]
  refine z31c fun v h5 h6=>?_;rw[List.length_take] at h6;rw[←h4 v h5 (by omega)];exact z204 (by rw[List.take_take,Nat.min_eq_left (by omega)]) _
 ·rw [z206]
  have e:∀v,v≤to→z129 (s.take to++u) 0 v (ts.map za4)=z129 s 0 v (ts.map za4):=fun v hv=>z204 (by rw[List.take_append_of_le_length (by rw[List.length_take];omega),List.take_take,Nat.min_eq_left hv]) _;refine z31d (by rw[e to (Nat.le_refl _)];exact h3) h1 (by rw[List.length_append,List.length_take];omega) fun v h5 h6=>?_;rw[e v (by omega)];exact h4 v h5 h6
def z405(n d:Nat):Prop:=18446744073709551620<n∧1100≤d
theorem arm_orU(p:Int×Bytes):(∃t,∀n d,z405 n d→z406 n d p t)∨∀n d,z405 n d→z447 n d p:=by
 obtain⟨k,u⟩:=p
 by_cases hk:k=1∨k=2∨k=3
 ·by_cases hl : 64 < u.length
  ·refine .inr fun n d hd => .inl fun h hx => ?_
   obtain⟨h1,h2⟩:=hd;obtain⟨D,rfl⟩:∃D,d=D+3:=⟨d - 3,by omega⟩;exact z308 (e1:=3) (q:=64) (by decide) (fun h hx=>z36c hl hk) (by rw[hx];rfl)
  ·obtain ⟨r, r1, _, r3⟩ := (z247 (u := u) (by omega) hk).2 (by omega)
   cases r with
   |error q=>
    refine .inr fun n d hd=>.inl fun h hx=>?_;obtain⟨h1,h2⟩:=hd;obtain⟨D,rfl⟩:∃D,d=D+3:=⟨d - 3,by omega⟩;exact z308 (e1:=6) (q:=(q:Int)) (by decide) (fun h hx=>r3 (by omega) (by omega) hx) (by rw[hx];rfl)
   |ok t=>
    have hz:=z1f0 r1
    have all:∀n d,z405 n d→∀h:AHeap,h.ex=[]→(∃nb h',world n (d+1) 25 [.agg [.int .i64 k,strA u]] h=some (.ret (.tup [.ptr nb 0,.int .i64 0]),h')∧Abs.Mem [] h h' [(nb,TNet,netC (za4 t))])∧world n (d+1) 44 [.agg [.int .i64 k,strA u]] h=some (.ret (.bool (z12a t)),h):=by
     intro n d hd h hx;obtain⟨hn,h2⟩:=hd;obtain⟨D,rfl⟩:∃D,d=D+3:=⟨d - 3,by omega⟩;have hx:zbb z22 h.ex=false:=by rw[hx];rfl
     exact⟨of_ok (z248 r1) (by omega) (by omega) hn (fun h hx=>r3 (by omega) (by omega) hx) hx,z3f7 (by omega) (by omega) (by omega) (fun h hx=>r3 (by omega) (by omega) hx) hx⟩
    cases he:z12a t with
    |false=>exact .inl ⟨t,fun n d hd=>⟨r1,by show u.length≤64;omega,he,fun h hx=>by have:=all n d hd h hx;rw[he] at this;exact this⟩⟩
    |true=>exact .inr fun n d hd=>.inr ⟨t,r1,he,fun h hx=>by have:=all n d hd h hx;rw[he] at this;exact this⟩
 ·refine .inr fun n d hd => .inl fun h hx => ?_
  obtain⟨h1,h2⟩:=hd;obtain⟨D,rfl⟩:∃D,d=D+3:=⟨d - 3,by omega⟩;exact z308 (e1:=2) (q:=0) (by decide) (fun h hx=>z36d hk) (by rw[hx];rfl)
section
variable {n d:Nat}
theorem armU_of{p:Int×Bytes}{t:Nd}(hd:z405 n d)(h0:AHeap)(hx:h0.ex=[])(k:z406 n d p t):∃t',∀n d,z405 n d→z406 n d p t':=by
 rcases arm_orU p with h|h
 ·exact h
 obtain⟨⟨nb,h',e1,_⟩,e2⟩:=k.2.2.2 h0 hx
 rcases h n d hd with hb|⟨_,_,_,hb⟩
 ·have := hb h0 hx
  rw[e1] at this
  cases this
 ·obtain ⟨_, e3⟩ := hb h0 hx
  rw[e2] at e3
  cases e3
theorem armsU_of{ps:List (Int×Bytes)}{ts:List Nd}(hd:z405 n d)(h0:AHeap)(hx:h0.ex=[])(k:ArmsOk n d ps ts):∃ts',∀n d,z405 n d→ArmsOk n d ps ts':=by
 induction k with
 |nil=>exact⟨[],fun _ _ _=>.nil⟩
 |cons h _ ih=>
  obtain⟨t',h1⟩:=armU_of hd h0 hx h;obtain⟨ts',h2⟩:=ih;exact⟨t'::ts',fun n d hd=>.cons (h1 n d hd) (h2 n d hd)⟩
theorem arms_get{ps:List (Int×Bytes)}{ts:List Nd}(k:ArmsOk n d ps ts):∀{i:Nat} {p:Int×Bytes},ps[i]? =some p→∃t,ts[i]? =some t∧z406 n d p t:=by
 induction k with
 |nil=>intro i p h;cases h
 |cons h _ ih=>
  intro i p hi
  cases i with
  |zero=>
   cases hi;exact⟨_,rfl,h⟩
  |succ i=>exact ih hi
end
noncomputable def z18e(call:zc)(t0:AV)(k24:AV→Int→AHeap→R)(self:AV→Int→Bytes→AHeap→R)(t6_30:AV)(t7_31:Int)(t9:Bytes)(h_32:AHeap):R:=lett (decide ((z115 t9)>0)) fun (t25:Bool)=>ifB t25 (callN (call 19 [t0,strA t9] h_32) fun r29 h_38=>obind (z153 0 r29) fun v30=>obind (avInt .i64 v30) fun t30=>obind (z153 1 r29) fun v31=>obind (z65 v31) fun t31=>obind (z153 2 r29) fun v32=>obind (z23 v32) fun t32=>lett (newH h_38 26 [.int .i64 0,.int .i64 0,.int .i64 0]) fun h_46=>obind (z15 h_46 3 t31 (z6 h_38)) fun h_48=>lett (decide (t30<1)) fun (t34:Bool)=>lett (fun (t40:Bool) (h_53:AHeap)=>lett (fun (t55:Bool) (h_56:AHeap)=>ifB t55 (some (.ret (.tup [AV.nsl,.bool false]),h_56)) (lett (IntKind.i64.wrap (t7_31+t30)) fun (t58:Int)=>obind (z1ae t9 t30 (z115 t9)) fun t61=>lett (fun (t6_66:AV) (h_67:AHeap)=>self t6_66 t58 t61 h_67) fun k65=>ifB t32 (obind (z16 h_56 3 (z6 h_38)) fun t64=>obind (z2d3 Tryd.prog 82 [(0,.agg t64),(1,.int .i64 t58)]) fun t66=>outK (z16e Tryd.prog h_56 42 1 [(0,.agg t66)]) fun v67 h_70=>outK (z7e Tryd.prog h_70 42 42 t6_30 v67) fun v68 h_72=>k65 v68 h_72) (k65 t6_30 h_56))) fun j55=>ifB t40 (j55 true h_53) (lett (!t32) fun (t43:Bool)=>lett (fun (t54:Bool) (h_75:AHeap)=>j55 t54 h_75) fun j54=>ifB t43 (lett ((t30:Int) != (z115 t9)) fun (t48:Bool)=>lett (fun (t53:Bool) (h_79:AHeap)=>j54 t53 h_79) fun j53=>ifB t48 (j53 true h_53) (obind (z16 h_53 3 (z6 h_38)) fun t50=>obind (zb2 Tryd.prog 26 (.agg t50) (.agg ([.int .i64 0,.int .i64 0,.int .i64 0]:List AV))) fun t52=>lett (!t52) fun (t52_84:Bool)=>j53 t52_84 h_53)) (j54 false h_53))) fun j40=>ifB t34 (j40 true h_48) (lett (decide (t30>(z115 t9))) fun (t39:Bool)=>j40 t39 h_48)) (k24 t6_30 t7_31 h_32)
noncomputable def z15d(call:zc)(t0:AV)(k24:AV→Int→AHeap→R):Nat→AV→Int→Bytes→AHeap→R:=ze6 (fun _ _ _ _=>none) (z18e call t0 k24)
theorem z2ec(call:zc)(t0:AV)(k24:AV→Int→AHeap→R)(m:Nat):z15d call t0 k24 (m+1)=z18e call t0 k24 (z15d call t0 k24 m):=rfl
noncomputable def z18f(call:zc)(n:Nat)(t0:AV)(t1:AV)(k7:AV→AHeap→R)(self:AV→Int→Int→AHeap→R)(t6_11:AV)(t7:Int)(t8:Int)(h_12:AHeap):R:=obind (z17d t1) fun t15=>lett (decide (t8<t15)) fun (t16:Bool)=>ifB t16 (obind (z1a8 1 t1 t8) fun t21=>obind (z7 h_12 t21) fun v22=>obind (z1c4 v22) fun t22=>lett (fun (t6_25:AV) (t7_26:Int) (h_27:AHeap)=>lett (IntKind.i64.wrap (t8+1)) fun (t18:Int)=>self t6_25 t7_26 t18 h_27) fun k24=>z15d call t0 k24 n t6_11 t7 t22 h_12) (k7 t6_11 h_12)
noncomputable def z15e(call:zc)(n:Nat)(t0:AV)(t1:AV)(k7:AV→AHeap→R):Nat→AV→Int→Int→AHeap→R:=ze6 (fun _ _ _ _=>none) (z18f call n t0 t1 k7)
theorem z2ed(call:zc)(n:Nat)(t0:AV)(t1:AV)(k7:AV→AHeap→R)(m:Nat):z15e call n t0 t1 k7 (m+1)=z18f call n t0 t1 k7 (z15e call n t0 t1 k7 m):=rfl
noncomputable def z399(call:zc)(n:Nat)(t0:AV)(t1:AV)(h:AHeap):R:=lett (fun (t6:AV) (h_8:AHeap)=>some (.ret (.tup [t6,.bool true]),h_8)) fun k7=>z15e call n t0 t1 k7 n AV.nsl 0 0 h
set_option maxHeartbeats 4000000 in
set_option maxRecDepth 20000 in
theorem law11_all_ok{call:zc}(hc:SaysAll Tryd.prog call){n:Nat}{t0:AV}{t1:AV}{h:AHeap}{rR:ARes}{hR:AHeap}(hF:z399 call n t0 t1 h=some (rR,hR)):Says Tryd.prog 22 [t0,t1] h rR hR:=by
 unfold z399 at hF;refine sO Tryd.func22 fun w0 m0=>?_;refine wW [(0,t0),(1,t1)] ?_;refine oG fun n1=>W.r ?_;refine oA 4 AV.nsl ?_;refine oA 5 (.bool false) ?_;refine oV [(0,t0),(1,t1)] (n1 ?_);refine oG fun n2=>W.r ?_;refine oA 6 AV.nsl ?_;refine oV [(0,t0),(1,t1),(6,AV.nsl)] (n2 ?_);refine oG fun n3=>W.r ?_;refine oA 7 (.int .i64 0) ?_;refine oV [(0,t0),(1,t1),(6,AV.nsl),(7,.int .i64 0)] (n3 ?_);refine W.s (fun K4 n4 e4 q4 p4=>?_);refine oG fun n5=>W.r ?_;refine oA 8 (.int .i64 0) ?_;refine oV [(0,t0),(1,t1),(6,AV.nsl),(7,.int .i64 0),(8,.int .i64 0)] (n5 ?_);obtain⟨k7,e7,hF⟩:=z9 hF
 have J7:∀(t6:AV) (h_8:AHeap),k7 t6 h_8=some (rR,hR)→Go w0 m0 (Func.ntmps Tryd.f22) (K4 .normal) [(6,t6)] [] h_8:=by
  intro t6 h_8 hF;rw[e7] at hF;refine n4 ?_;refine oG fun n9=>W.r ?_;refine oA 69 t6 ?_;refine oA 4 t6 ?_;refine oA 5 (.bool true) ?_;refine oV [(4,t6),(5,.bool true)] (n9 (oY ?_));exact lZ hF [.tmp 4,.tmp 5] [t6,.bool true] (rT (rT zd))
 refine yc (by kernel_rfl) (fun K6 n6 s6 o6 q6 p6=>?_);refine y14 (by kernel_rfl) (fun I10 K10 b10 n10 e10 q10 p10=>?_)
 have L10:∀(m:Nat) (t6_11:AV) (t7:Int) (t8:Int) (h_12:AHeap),z15e call n t0 t1 k7 m t6_11 t7 t8 h_12=some (rR,hR)→Go w0 m0 (Func.ntmps Tryd.f22) I10 [(0,t0),(1,t1),(6,t6_11),(7,.int .i64 t7),(8,.int .i64 t8)] [] h_12:=by
  intro m
  induction m with
  |zero=>intro t6_11 t7 t8 h_12 hF;cases hF
  |succ m ih10=>
   intro t6_11 t7 t8 h_12 hF;rw[z2ed] at hF;unfold z18f at hF;refine b10 ?_;refine W.s (fun K13 n13 e13 q13 p13=>?_);refine oG fun n14=>W.r ?_;refine oA 13 (.int .i64 t8) ?_;refine oA 14 t1 ?_;refine oM 15 30 9 hF fun t15 hF=>?_;refine oB 16 hF fun t16 hF=>?_;refine oV [(0,t0),(1,t1),(6,t6_11),(7,.int .i64 t7),(8,.int .i64 t8),(16,.bool t16)] (n14 ?_)
   cases t16 with
   |true=>
    refine oT hF fun hF=>?_;refine oZ (n13 ?_);refine oH fun n17 q17=>?_;refine yc (by kernel_rfl) (fun K18 n18 s18 o18 q18 p18=>?_);refine oG fun n19=>W.r ?_;refine oA 19 t1 ?_;refine oA 20 (.int .i64 t8) ?_;refine oP 21 30 9 .i64 hF fun t21 hF=>?_;refine oLs 22 9 hF fun t22 hF=>?_;refine oA 9 (strA t22) ?_;refine oV [(0,t0),(1,t1),(6,t6_11),(7,.int .i64 t7),(8,.int .i64 t8),(9,strA t22)] (n19 ?_);obtain⟨k24,e24,hF⟩:=z9 hF
    have J24:∀(t6_25:AV) (t7_26:Int) (h_27:AHeap),k24 t6_25 t7_26 h_27=some (rR,hR)→Go w0 m0 (Func.ntmps Tryd.f22) (K18 .normal) [(0,t0),(1,t1),(6,t6_25),(7,.int .i64 t7_26),(8,.int .i64 t8)] [] h_27:=by
     intro t6_25 t7_26 h_27 hF;rw[e24] at hF;refine n18 (n17 (W.r ?_));refine oA 17 (.int .i64 t8) ?_;refine oI 18 .i64 hF fun t18 hF=>?_;refine oA 8 (.int .i64 t18) ?_;refine oV [(0,t0),(1,t1),(6,t6_25),(7,.int .i64 t7_26),(8,.int .i64 t18)] (n10 ?_);exact gW _ (ih10 _ _ _ _ hF)
    refine yc (by kernel_rfl) (fun K23 n23 s23 o23 q23 p23=>?_);refine y14 (by kernel_rfl) (fun I29 K29 b29 n29 e29 q29 p29=>?_)
    have L29:∀(m:Nat) (t6_30:AV) (t7_31:Int) (t9:Bytes) (h_32:AHeap),z15d call t0 k24 m t6_30 t7_31 t9 h_32=some (rR,hR)→Go w0 m0 (Func.ntmps Tryd.f22) I29 [(0,t0),(1,t1),(6,t6_30),(7,.int .i64 t7_31),(8,.int .i64 t8),(9,strA t9)] [] h_32:=by
     intro m
     induction m with
     |zero=>intro t6_30 t7_31 t9 h_32 hF;cases hF
     |succ m ih29=>
      intro t6_30 t7_31 t9 h_32 hF;rw[z2ec] at hF;unfold z18e at hF;refine b29 ?_;refine W.s (fun K33 n33 e33 q33 p33=>?_);refine oG fun n34=>W.r ?_;refine oA 23 (strA t9) ?_;refine oA 24 (.int .i64 (z115 t9)) ?_;refine oB 25 hF fun t25 hF=>?_;refine oV [(0,t0),(1,t1),(6,t6_30),(7,.int .i64 t7_31),(8,.int .i64 t8),(9,strA t9),(25,.bool t25)] (n34 ?_)
      cases t25 with
      |true=>
       refine oT hF fun hF=>?_;refine oZ (n33 ?_);refine yc (by kernel_rfl) (fun K36 n36 s36 o36 q36 p36=>?_);refine oG fun n37=>W.r ?_;refine oA 27 t0 ?_;refine oA 28 (strA t9) ?_;refine oC hc (some 29) hF fun r29 h_38 hF=>?_;refine oA 26 r29 ?_;refine oEi 30 hF fun t30 hF=>?_;refine oEa 31 hF fun t31 hF=>?_;refine oEb 32 hF fun t32 hF=>?_;refine oN 11 hF fun h_46 hF=>?_;refine oA 10 (.int .i64 t30) ?_;refine oW 26 (.agg t31) hF fun h_48 hF=>?_;refine oA 12 (.bool t32) ?_;refine oV [(0,t0),(1,t1),(6,t6_30),(7,.int .i64 t7_31),(8,.int .i64 t8),(9,strA t9),(10,.int .i64 t30),(11,(z6 h_38)),(12,.bool t32)] (n37 ?_);refine oH fun n50 q50=>?_;refine W.s (fun K51 n51 e51 q51 p51=>?_);refine W.r ?_;refine oA 33 (.int .i64 t30) ?_;refine oB 34 hF fun t34 hF=>?_;refine oA 35 (.bool t34) ?_;obtain⟨j40,e54,hF⟩:=z9 hF
       have J55:∀(t40:Bool) (h_53:AHeap),j40 t40 h_53=some (rR,hR)→WL Tryd.prog w0 m0 (Func.ntmps Tryd.f22) (Code.ops (y4 (y4 (y3 (y4 (y3 (y4 (y4 (y3 (y4 (y4 (y3 (y4 (y4 (y3 (y4 (y3 (y3 (y3 (z55 Tryd.f22)))))))))))))))))))) 8 K51 [(0,t0),(1,t1),(6,t6_30),(7,.int .i64 t7_31),(8,.int .i64 t8),(9,strA t9),(10,.int .i64 t30),(11,(z6 h_38)),(12,.bool t32),(40,.bool t40)] [] h_53:=by
        intro t40 h_53 hF;rw[e54] at hF;refine oA 41 (.bool t40) ?_;obtain⟨j55,e57,hF⟩:=z9 hF
        have J58:∀(t55:Bool) (h_56:AHeap),j55 t55 h_56=some (rR,hR)→WL Tryd.prog w0 m0 (Func.ntmps Tryd.f22) (Code.ops (y4 (y4 (y3 (y4 (y3 (y4 (y4 (y3 (y4 (y4 (y3 (y4 (y4 (y3 (y4 (y3 (y3 (y3 (z55 Tryd.f22)))))))))))))))))))) 23 K51 [(0,t0),(1,t1),(6,t6_30),(7,.int .i64 t7_31),(8,.int .i64 t8),(9,strA t9),(10,.int .i64 t30),(11,(z6 h_38)),(12,.bool t32),(55,.bool t55)] [] h_56:=by
         intro t55 h_56 hF;rw[e57] at hF;refine oV [(0,t0),(1,t1),(6,t6_30),(7,.int .i64 t7_31),(8,.int .i64 t8),(9,strA t9),(10,.int .i64 t30),(11,(z6 h_38)),(12,.bool t32),(55,.bool t55)] (n51 ?_)
         cases t55 with
         |true=>
          refine oT hF fun hF=>?_;refine oG fun n59=>W.r ?_;refine oA 4 AV.nsl ?_;refine oA 5 (.bool false) ?_;refine oV [(4,AV.nsl),(5,.bool false)] (n59 (oY (q50 (q36 (q29 (q23 (q18 (q17 (q10 (q6 (q4 ?_)))))))))));exact lZ hF [.tmp 4,.tmp 5] [AV.nsl,.bool false] (rT (rT zd))
         |false=>
          refine oU hF fun hF=>?_;refine oZ (n50 ?_);refine oG fun n60=>W.r ?_;refine oA 56 (.int .i64 t7_31) ?_;refine oA 57 (.int .i64 t30) ?_;refine oI 58 .i64 hF fun t58 hF=>?_;refine oA 7 (.int .i64 t58) ?_;refine oV [(0,t0),(1,t1),(6,t6_30),(7,.int .i64 t58),(8,.int .i64 t8),(9,strA t9),(10,.int .i64 t30),(11,(z6 h_38)),(12,.bool t32)] (n60 ?_);refine oG fun n62=>W.r ?_;refine oA 59 (strA t9) ?_;refine oA 60 (.int .i64 t30) ?_;obtain⟨t61,e63,hF⟩:=z3 hF;refine WL.b (some 61) (strA t61) h_56 (z1ad (P:=Tryd.prog) (h:=h_56) (t:=9) (A:=(some (.int .i64 t30))) (B:=none) (by kernel_rfl) (.inl ⟨_,rfl⟩) (.inr ⟨rfl,rfl⟩) e63) ?_;refine oA 9 (strA t61) ?_;refine oV [(0,t0),(1,t1),(6,t6_30),(7,.int .i64 t58),(8,.int .i64 t8),(9,strA t61),(11,(z6 h_38)),(12,.bool t32)] (n62 ?_);refine oG fun n64=>W.r ?_;refine oA 62 (.bool t32) ?_;refine oV [(0,t0),(1,t1),(6,t6_30),(7,.int .i64 t58),(8,.int .i64 t8),(9,strA t61),(11,(z6 h_38)),(62,.bool t32)] (n64 ?_);obtain⟨k65,e65,hF⟩:=z9 hF
          have J65:∀(t6_66:AV) (h_67:AHeap),k65 t6_66 h_67=some (rR,hR)→Go w0 m0 (Func.ntmps Tryd.f22) (K36 .normal) [(0,t0),(1,t1),(6,t6_66),(7,.int .i64 t58),(8,.int .i64 t8),(9,strA t61)] [] h_67:=by
           intro t6_66 h_67 hF;rw[e65] at hF;refine n36 (n29 ?_);exact gW _ (ih29 _ _ _ _ hF)
          cases t32 with
          |true=>
           refine oT hF fun hF=>?_;refine W.r ?_;refine oA 63 t6_30 ?_;refine oR 64 26 hF fun t64 hF=>?_;refine oA 65 (.int .i64 t58) ?_;obtain⟨t66,e69,hF⟩:=z3 hF;refine WL.val (d:=(some 66)) (v:=.agg t66) (h':=h_56) (by kernel_rfl) (by kernel_rfl) (z1e9 (by kernel_rfl) e69) ?_;refine oK 67 hF fun v67 h_70 hF=>?_;refine oK 68 hF fun v68 h_72 hF=>?_;refine oA 6 v68 ?_;refine oV [(0,t0),(1,t1),(6,v68),(7,.int .i64 t58),(8,.int .i64 t8),(9,strA t61)] ?_;exact gW _ (J65 _ _ hF)
          |false=>
           refine oU hF fun hF=>?_;refine oZ ?_;exact gW _ (J65 _ _ hF)
        cases t40 with
        |true=>
         replace hF:=zc3 hF
         refine WL.o (some 42) ?_;refine WL.o (some 43) ?_;refine WL.o (some 44) ?_;refine WL.o (some 45) ?_;refine WL.o (some 46) ?_;refine WL.o (some 47) ?_;refine WL.o (some 48) ?_;refine WL.o (some 49) ?_;refine WL.o (some 50) ?_;refine WL.o (some 51) ?_;refine WL.o (some 52) ?_;refine WL.o (some 53) ?_;refine WL.o (some 54) ?_;refine oA 55 (.bool true) ?_;exact lW _ (J58 _ _ hF)
        |false=>
         replace hF:=zc4 hF
         refine oA 42 (.bool t32) ?_;refine oB 43 hF fun t43 hF=>?_;refine oA 44 (.bool t43) ?_;obtain⟨j54,e76,hF⟩:=z9 hF
         have J77:∀(t54:Bool) (h_75:AHeap),j54 t54 h_75=some (rR,hR)→WL Tryd.prog w0 m0 (Func.ntmps Tryd.f22) (Code.ops (y4 (y4 (y3 (y4 (y3 (y4 (y4 (y3 (y4 (y4 (y3 (y4 (y4 (y3 (y4 (y3 (y3 (y3 (z55 Tryd.f22)))))))))))))))))))) 22 K51 [(0,t0),(1,t1),(6,t6_30),(7,.int .i64 t7_31),(8,.int .i64 t8),(9,strA t9),(10,.int .i64 t30),(11,(z6 h_38)),(12,.bool t32),(41,.bool false),(54,.bool t54)] [] h_75:=by
          intro t54 h_75 hF;rw[e76] at hF;refine oA 55 (.bool t54) ?_;exact lW _ (J58 _ _ hF)
         cases t43 with
         |true=>
          replace hF:=zc3 hF
          refine oA 45 (.int .i64 t30) ?_;refine oA 46 (strA t9) ?_;refine oA 47 (.int .i64 (z115 t9)) ?_;refine oB 48 hF fun t48 hF=>?_;refine oA 49 (.bool t48) ?_;obtain⟨j53,e80,hF⟩:=z9 hF
          have J81:∀(t53:Bool) (h_79:AHeap),j53 t53 h_79=some (rR,hR)→WL Tryd.prog w0 m0 (Func.ntmps Tryd.f22) (Code.ops (y4 (y4 (y3 (y4 (y3 (y4 (y4 (y3 (y4 (y4 (y3 (y4 (y4 (y3 (y4 (y3 (y3 (y3 (z55 Tryd.f22)))))))))))))))))))) 21 K51 [(0,t0),(1,t1),(6,t6_30),(7,.int .i64 t7_31),(8,.int .i64 t8),(9,strA t9),(10,.int .i64 t30),(11,(z6 h_38)),(12,.bool t32),(41,.bool false),(44,.bool true),(53,.bool t53)] [] h_79:=by
           intro t53 h_79 hF;rw[e80] at hF;refine oA 54 (.bool t53) ?_;exact lW _ (J77 _ _ hF)
          cases t48 with
          |true=>
           replace hF:=zc3 hF
           refine WL.o (some 50) ?_;refine WL.o (some 51) ?_;refine WL.o (some 52) ?_;refine oA 53 (.bool true) ?_;exact lW _ (J81 _ _ hF)
          |false=>
           replace hF:=zc4 hF
           refine oR 50 26 hF fun t50 hF=>?_;refine oA 51 (.agg ([.int .i64 0,.int .i64 0,.int .i64 0]:List AV)) ?_;obtain⟨t52,e83,hF⟩:=z3 hF;obtain⟨t52_84,e85,hF⟩:=z9 hF;refine WL.val (d:=(some 52)) (v:=.bool t52_84) (h':=h_53) (by kernel_rfl) (by kernel_rfl) (z108 AV.bool e85 (Eq.trans (by kernel_rfl) (z38f (P:=Tryd.prog) (h:=h_53) (t:=26) (lit:=false) (by kernel_rfl) e83))) ?_;refine oA 53 (.bool t52_84) ?_;exact lW _ (J81 _ _ hF)
         |false=>
          replace hF:=zc4 hF
          refine WL.o (some 45) ?_;refine WL.o (some 46) ?_;refine WL.o (some 47) ?_;refine WL.o (some 48) ?_;refine WL.o (some 49) ?_;refine WL.o (some 50) ?_;refine WL.o (some 51) ?_;refine WL.o (some 52) ?_;refine WL.o (some 53) ?_;refine oA 54 (.bool false) ?_;exact lW _ (J77 _ _ hF)
       cases t34 with
       |true=>
        replace hF:=zc3 hF
        refine WL.o (some 36) ?_;refine WL.o (some 37) ?_;refine WL.o (some 38) ?_;refine WL.o (some 39) ?_;refine oA 40 (.bool true) ?_;exact lW _ (J55 _ _ hF)
       |false=>
        replace hF:=zc4 hF
        refine oA 36 (.int .i64 t30) ?_;refine oA 37 (strA t9) ?_;refine oA 38 (.int .i64 (z115 t9)) ?_;refine oB 39 hF fun t39 hF=>?_;refine oA 40 (.bool t39) ?_;exact lW _ (J55 _ _ hF)
      |false=>
       refine oU hF fun hF=>?_;refine W.exit (by kernel_rfl) ?_;refine e33 (e29 ?_);refine s23 (by kernel_rfl) ?_;exact gW _ (J24 _ _ _ hF)
    exact gW _ (L29 _ _ _ _ _ hF)
   |false=>
    refine oU hF fun hF=>?_;refine W.exit (by kernel_rfl) ?_;refine e13 (e10 ?_);refine s6 (by kernel_rfl) ?_;exact gW _ (J7 _ _ hF)
 exact gW _ (L10 _ _ _ _ _ hF)
noncomputable def z169(t0:AV)(t1:AV)(k11:AHeap→R)(self:Int→AHeap→R)(t5:Int)(h_15:AHeap):R:=obind (z17d t0) fun t13=>lett (decide (t5<t13)) fun (t14:Bool)=>ifB t14 (obind (z1a8 4 t0 t5) fun t19=>obind (z16 h_15 4 t19) fun t20=>obind (z1a8 4 t1 t5) fun t23=>obind (z16 h_15 4 t23) fun t24=>obind (zb2 Tryd.prog 82 (.agg t20) (.agg t24)) fun t25=>lett (!t25) fun (t25_28:Bool)=>ifB t25_28 (some (.ret (.bool false),h_15)) (lett (IntKind.i64.wrap (t5+1)) fun (t16:Int)=>self t16 h_15)) (k11 h_15)
noncomputable def z13f(t0:AV)(t1:AV)(k11:AHeap→R):Nat→Int→AHeap→R:=ze6 (fun _ _=>none) (z169 t0 t1 k11)
theorem z2bf(t0:AV)(t1:AV)(k11:AHeap→R)(m:Nat):z13f t0 t1 k11 (m+1)=z169 t0 t1 k11 (z13f t0 t1 k11 m):=rfl
noncomputable def z311(_:zc)(n:Nat)(t0:AV)(t1:AV)(h:AHeap):R:=obind (z17d t0) fun t7=>obind (z17d t1) fun t9=>lett ((t7:Int) != t9) fun (t10:Bool)=>ifB t10 (some (.ret (.bool false),h)) (lett (fun (h_12:AHeap)=>some (.ret (.bool true),h_12)) fun k11=>z13f t0 t1 k11 n 0 h)
set_option maxHeartbeats 4000000 in
set_option maxRecDepth 20000 in
theorem law11_same_ok{call:zc}(hc:SaysAll Tryd.prog call){n:Nat}{t0:AV}{t1:AV}{h:AHeap}{rR:ARes}{hR:AHeap}(hF:z311 call n t0 t1 h=some (rR,hR)):Says Tryd.prog 23 [t0,t1] h rR hR:=by
 unfold z311 at hF;refine sO Tryd.func23 fun w0 m0=>?_;refine wW [(0,t0),(1,t1)] ?_;refine oG fun n1=>W.r ?_;refine oA 4 (.bool false) ?_;refine oV [(0,t0),(1,t1)] (n1 ?_);refine oH fun n2 q2=>?_;refine oG fun n3=>W.r ?_;refine oA 6 t0 ?_;refine oM 7 42 82 hF fun t7 hF=>?_;refine oA 8 t1 ?_;refine oM 9 42 82 hF fun t9 hF=>?_;refine oB 10 hF fun t10 hF=>?_;refine oV [(0,t0),(1,t1),(10,.bool t10)] (n3 ?_)
 cases t10 with
 |true=>
  refine oT hF fun hF=>?_;refine oG fun n7=>W.r ?_;refine oA 4 (.bool false) ?_;refine oV [(4,.bool false)] (n7 (oY (q2 ?_)));exact lZ hF [.tmp 4] [.bool false] (rT zd)
 |false=>
  refine oU hF fun hF=>?_;refine oZ (n2 ?_);refine W.s (fun K8 n8 e8 q8 p8=>?_);refine oG fun n9=>W.r ?_;refine oA 5 (.int .i64 0) ?_;refine oV [(0,t0),(1,t1),(5,.int .i64 0)] (n9 ?_);obtain⟨k11,e11,hF⟩:=z9 hF
  have J11:∀(h_12:AHeap),k11 h_12=some (rR,hR)→Go w0 m0 (Func.ntmps Tryd.f23) (K8 .normal) [] [] h_12:=by
   intro h_12 hF;rw[e11] at hF;refine n8 ?_;refine oG fun n13=>W.r ?_;refine oA 4 (.bool true) ?_;refine oV [(4,.bool true)] (n13 (oY ?_));exact lZ hF [.tmp 4] [.bool true] (rT zd)
  refine yc (by kernel_rfl) (fun K10 n10 s10 o10 q10 p10=>?_);refine y14 (by kernel_rfl) (fun I14 K14 b14 n14 e14 q14 p14=>?_)
  have L14:∀(m:Nat) (t5:Int) (h_15:AHeap),z13f t0 t1 k11 m t5 h_15=some (rR,hR)→Go w0 m0 (Func.ntmps Tryd.f23) I14 [(0,t0),(1,t1),(5,.int .i64 t5)] [] h_15:=by
   intro m
   induction m with
   |zero=>intro t5 h_15 hF;cases hF
   |succ m ih14=>
    intro t5 h_15 hF;rw[z2bf] at hF;unfold z169 at hF;refine b14 ?_;refine W.s (fun K16 n16 e16 q16 p16=>?_);refine oG fun n17=>W.r ?_;refine oA 11 (.int .i64 t5) ?_;refine oA 12 t0 ?_;refine oM 13 42 82 hF fun t13 hF=>?_;refine oB 14 hF fun t14 hF=>?_;refine oV [(0,t0),(1,t1),(5,.int .i64 t5),(14,.bool t14)] (n17 ?_)
    cases t14 with
    |true=>
     refine oT hF fun hF=>?_;refine oZ (n16 ?_);refine oH fun n20 q20=>?_;refine yc (by kernel_rfl) (fun K21 n21 s21 o21 q21 p21=>?_);refine oG fun n22=>?_;refine y21 (by kernel_rfl) (hc.ok w0) (plan:=[0,1,2,3,4,5,6,7,8]) (by kernel_rfl) (by kernel_rfl) (by kernel_rfl) ?_;refine WD.a 0 (some 17) t0 h_15 ?_;refine WD.a 0 (some 18) (.int .i64 t5) h_15 ?_;obtain⟨t19,e23,hF⟩:=z3 hF;refine WD.b 0 (some 19) t19 h_15 (z178 (P:=Tryd.prog) (h:=h_15) (t:=42) (e':=82) (k:=.i64) (by kernel_rfl) (by kernel_rfl) (by kernel_rfl) e23) ?_;obtain⟨t20,e24,hF⟩:=z3 hF;refine WD.b 1 (some 20) (.agg t20) h_15 (zb1 (P:=Tryd.prog) (h:=h_15) (t:=82) (by kernel_rfl) (by kernel_rfl) e24) ?_;refine WD.a 0 (some 21) t1 h_15 ?_;refine WD.a 0 (some 22) (.int .i64 t5) h_15 ?_;obtain⟨t23,e25,hF⟩:=z3 hF;refine WD.b 0 (some 23) t23 h_15 (z178 (P:=Tryd.prog) (h:=h_15) (t:=42) (e':=82) (k:=.i64) (by kernel_rfl) (by kernel_rfl) (by kernel_rfl) e25) ?_;obtain⟨t24,e26,hF⟩:=z3 hF;refine WD.b 1 (some 24) (.agg t24) h_15 (zb1 (P:=Tryd.prog) (h:=h_15) (t:=82) (by kernel_rfl) (by kernel_rfl) e26) ?_;obtain⟨t25,e27,hF⟩:=z3 hF;obtain⟨t25_28,e29,hF⟩:=z9 hF;refine WD.val (d:=(some 25)) (v:=.bool t25_28) (h':=h_15) (by kernel_rfl) (by kernel_rfl) (z108 AV.bool e29 (Eq.trans (by kernel_rfl) (z38f (P:=Tryd.prog) (h:=h_15) (t:=82) (lit:=false) (by kernel_rfl) e27))) (k:=0) (by kernel_rfl) (fun e=>absurd e (by decide)) (by decide) ?_;refine WD.nil ?_;refine gW [(0,t0),(1,t1),(5,.int .i64 t5),(25,.bool t25_28)] (n22 ?_)
     cases t25_28 with
     |true=>
      refine oT hF fun hF=>?_;refine oG fun n30=>W.r ?_;refine oA 4 (.bool false) ?_;refine oV [(4,.bool false)] (n30 (oY (q21 (q20 (q14 (q10 (q8 ?_)))))));exact lZ hF [.tmp 4] [.bool false] (rT zd)
     |false=>
      refine oU hF fun hF=>?_;refine oZ (n21 (n20 (W.r ?_)));refine oA 15 (.int .i64 t5) ?_;refine oI 16 .i64 hF fun t16 hF=>?_;refine oA 5 (.int .i64 t16) ?_;refine oV [(0,t0),(1,t1),(5,.int .i64 t16)] (n14 ?_);exact gW _ (ih14 _ _ hF)
    |false=>
     refine oU hF fun hF=>?_;refine W.exit (by kernel_rfl) ?_;refine e16 (e14 ?_);refine s10 (by kernel_rfl) ?_;exact gW _ (J11 _ hF)
  exact gW _ (L14 _ _ _ hF)
noncomputable def z18d(t0:AV)(t1:Int)(k6:Int→AHeap→R)(self:Int→Int→AHeap→R)(t5_10:Int)(t6:Int)(h_11:AHeap):R:=obind (z17d t0) fun t9=>lett (decide (t6<t9)) fun (t10:Bool)=>lett (fun (t15:Bool) (h_16:AHeap)=>ifB t15 (obind (z1a8 1 t0 t6) fun t21=>obind (z7 h_16 t21) fun v22=>obind (z1c4 v22) fun t22=>lett (IntKind.i64.wrap (t5_10+(z115 t22))) fun (t24:Int)=>lett (IntKind.i64.wrap (t6+1)) fun (t17:Int)=>self t24 t17 h_16) (k6 t5_10 h_16)) fun j15=>ifB t10 (lett (decide (t5_10≤t1)) fun (t14:Bool)=>j15 t14 h_11) (j15 false h_11)
noncomputable def z15c(t0:AV)(t1:Int)(k6:Int→AHeap→R):Nat→Int→Int→AHeap→R:=ze6 (fun _ _ _=>none) (z18d t0 t1 k6)
theorem z2eb(t0:AV)(t1:Int)(k6:Int→AHeap→R)(m:Nat):z15c t0 t1 k6 (m+1)=z18d t0 t1 k6 (z15c t0 t1 k6 m):=rfl
noncomputable def z398(_:zc)(n:Nat)(t0:AV)(t1:Int)(h:AHeap):R:=lett (fun (t5:Int) (h_7:AHeap)=>some (.ret (.int .i64 t5),h_7)) fun k6=>z15c t0 t1 k6 n 0 0 h
set_option maxHeartbeats 4000000 in
set_option maxRecDepth 20000 in
theorem law11_sum_ok{call:zc}(_:SaysAll Tryd.prog call){n:Nat}{t0:AV}{t1:Int}{h:AHeap}{rR:ARes}{hR:AHeap}(hF:z398 call n t0 t1 h=some (rR,hR)):Says Tryd.prog 18 [t0,.int .i64 t1] h rR hR:=by
 unfold z398 at hF;refine sO Tryd.func18 fun w0 m0=>?_;refine wW [(0,t0),(1,.int .i64 t1)] ?_;refine oG fun n1=>W.r ?_;refine oA 4 (.int .i64 0) ?_;refine oV [(0,t0),(1,.int .i64 t1)] (n1 ?_);refine oG fun n2=>W.r ?_;refine oA 5 (.int .i64 0) ?_;refine oV [(0,t0),(1,.int .i64 t1),(5,.int .i64 0)] (n2 ?_);refine W.s (fun K3 n3 e3 q3 p3=>?_);refine oG fun n4=>W.r ?_;refine oA 6 (.int .i64 0) ?_;refine oV [(0,t0),(1,.int .i64 t1),(5,.int .i64 0),(6,.int .i64 0)] (n4 ?_);obtain⟨k6,e6,hF⟩:=z9 hF
 have J6:∀(t5:Int) (h_7:AHeap),k6 t5 h_7=some (rR,hR)→Go w0 m0 (Func.ntmps Tryd.f18) (K3 .normal) [(5,.int .i64 t5)] [] h_7:=by
  intro t5 h_7 hF;rw[e6] at hF;refine n3 ?_;refine oG fun n8=>W.r ?_;refine oA 25 (.int .i64 t5) ?_;refine oA 4 (.int .i64 t5) ?_;refine oV [(4,.int .i64 t5)] (n8 (oY ?_));exact lZ hF [.tmp 4] [.int .i64 t5] (rT zd)
 refine yc (by kernel_rfl) (fun K5 n5 s5 o5 q5 p5=>?_);refine y14 (by kernel_rfl) (fun I9 K9 b9 n9 e9 q9 p9=>?_)
 have L9:∀(m:Nat) (t5_10:Int) (t6:Int) (h_11:AHeap),z15c t0 t1 k6 m t5_10 t6 h_11=some (rR,hR)→Go w0 m0 (Func.ntmps Tryd.f18) I9 [(0,t0),(1,.int .i64 t1),(5,.int .i64 t5_10),(6,.int .i64 t6)] [] h_11:=by
  intro m
  induction m with
  |zero=>intro t5_10 t6 h_11 hF;cases hF
  |succ m ih9=>
   intro t5_10 t6 h_11 hF;rw[z2eb] at hF;unfold z18d at hF;refine b9 ?_;refine W.s (fun K12 n12 e12 q12 p12=>?_);refine W.s (fun K13 n13 e13 q13 p13=>?_);refine W.r ?_;refine oA 7 (.int .i64 t6) ?_;refine oA 8 t0 ?_;refine oM 9 30 9 hF fun t9 hF=>?_;refine oB 10 hF fun t10 hF=>?_;refine oA 11 (.bool t10) ?_;obtain⟨j15,e17,hF⟩:=z9 hF
   have J18:∀(t15:Bool) (h_16:AHeap),j15 t15 h_16=some (rR,hR)→WL Tryd.prog w0 m0 (Func.ntmps Tryd.f18) (Code.ops (y4 (y4 (y4 (y4 (y3 (y4 (y3 (y3 (z55 Tryd.f18)))))))))) 9 K13 [(0,t0),(1,.int .i64 t1),(5,.int .i64 t5_10),(6,.int .i64 t6),(15,.bool t15)] [] h_16:=by
    intro t15 h_16 hF;rw[e17] at hF;refine oV [(0,t0),(1,.int .i64 t1),(5,.int .i64 t5_10),(6,.int .i64 t6),(15,.bool t15)] (n13 ?_)
    cases t15 with
    |true=>
     refine oT hF fun hF=>?_;refine oZ (n12 ?_);refine oG fun n19=>?_;refine yc (by kernel_rfl) (fun K20 n20 s20 o20 q20 p20=>?_);refine W.r ?_;refine oA 18 (.int .i64 t5_10) ?_;refine oA 19 t0 ?_;refine oA 20 (.int .i64 t6) ?_;refine oP 21 30 9 .i64 hF fun t21 hF=>?_;refine oLs 22 9 hF fun t22 hF=>?_;refine oA 23 (.int .i64 (z115 t22)) ?_;refine oI 24 .i64 hF fun t24 hF=>?_;refine oA 5 (.int .i64 t24) ?_;refine oV [(0,t0),(1,.int .i64 t1),(5,.int .i64 t24),(6,.int .i64 t6)] (n20 (n19 (W.r ?_)));refine oA 16 (.int .i64 t6) ?_;refine oI 17 .i64 hF fun t17 hF=>?_;refine oA 6 (.int .i64 t17) ?_;refine oV [(0,t0),(1,.int .i64 t1),(5,.int .i64 t24),(6,.int .i64 t17)] (n9 ?_);exact gW _ (ih9 _ _ _ hF)
    |false=>
     refine oU hF fun hF=>?_;refine W.exit (by kernel_rfl) ?_;refine e12 (e9 ?_);refine s5 (by kernel_rfl) ?_;exact gW _ (J6 _ _ hF)
   cases t10 with
   |true=>
    replace hF:=zc3 hF
    refine oA 12 (.int .i64 t5_10) ?_;refine oA 13 (.int .i64 t1) ?_;refine oB 14 hF fun t14 hF=>?_;refine oA 15 (.bool t14) ?_;exact lW _ (J18 _ _ hF)
   |false=>
    replace hF:=zc4 hF
    refine WL.o (some 12) ?_;refine WL.o (some 13) ?_;refine WL.o (some 14) ?_;refine oA 15 (.bool false) ?_;exact lW _ (J18 _ _ hF)
 exact gW _ (L9 _ _ _ _ hF)
abbrev FoundT:=(Nat×Int×Nat)×Nat
open Go.RowKit Abs
open Go.RowKit Abs
set_option maxRecDepth 100000 in
theorem z49a{N:Nat}{h:AHeap}:∀{ls:List (List AV)},(∀li∈ls,Plain Tryd.prog N h 11 TPat li)→∃ps:List (Int×Bytes),ls=ps.map z419∧∀p∈ps,p.2.length≤reachBytes
 |[],_=>⟨[],rfl,fun _ h=>nomatch h⟩
 |l::ls,hp=>by
  obtain⟨ps,rfl,h2⟩:=z49a (fun li hl=>hp li (List.mem_cons_of_mem _ hl));obtain⟨y1,y2,rfl,p1,p2⟩:=(hp l List.mem_cons_self).struct2 Tryd.underlying51;obtain⟨k,rfl,_⟩:=p1.int Tryd.underlying3;obtain⟨u,rfl,hu⟩:=p2.str Tryd.underlying9;refine⟨(k,u)::ps,rfl,fun p hp=>?_⟩
  rcases List.mem_cons.1 hp with rfl|hp
  ·exact hu
  ·exact h2 p hp
set_option maxRecDepth 100000 in
theorem args_pats{N:Nat}{h:AHeap}{x:AV}(hp:ArgP Tryd.prog N h 12 22 x):∃ps:List (Int×Bytes),Slc N h 2 x (ps.map z419)∧ps.length<1000000000000000000:=by
 obtain⟨ls,h1,h2,h3⟩:=hp.slice Tryd.underlying22;obtain⟨ps,rfl,_⟩:=z49a h3;have hc:Tryd.prog.cellsOf TPat=2:=by kernel_rfl
 have hb:Tryd.prog.bytesOf TPat=24:=by kernel_rfl
 have hr:reachBytes<1000000000000000000:=by decide
 rw[List.length_map,hb] at h2;rw[hc] at h1;exact⟨ps,h1,by omega⟩
set_option maxRecDepth 100000 in
abbrev tzI64:List Int:=[0,1,56,2,57,49,28,3,61,58,42,50,38,29,17,4,62,47,59,36,45,43,51,22,53,39,33,30,24,18,12,5,63,55,48,27,60,41,37,16,46,35,44,21,52,32,23,11,54,26,40,15,34,20,31,10,25,14,19,9,13,8,7,6]
set_option maxRecDepth 100000 in
theorem tzC_ints:tzC=tzI64.map fun z=>AV.int .u8 z:=by kernel_rfl
set_option maxRecDepth 100000 in
noncomputable def tzG:Tabs:=[(0,tzI64.map fun z=>AV.int .u8 z)]
set_option maxRecDepth 100000 in
theorem tz_of{h:AHeap}{X:List Nat}{G:Nat}(hG:0<G)(k:Keeps (z268 tzG X G) h):HasTz h:=
 ⟨k.2.2 _ _ (by show (z24a tzG).get _=_;unfold tzG z24a;rw[y1c,tzC_ints]),Nat.lt_of_lt_of_le hG k.1⟩
theorem y56{N:Nat}{h h':AHeap}{sz:Nat}{v:AV}{ls:List (List AV)}(k:Slc N h sz v ls)(t:Tch [] h h')(hN:N≤h.next):Slc h'.next h' sz v ls:=k.keep (Nat.le_trans hN t.1) fun b o hb ho=>by rw[t.2.2 b (Nat.lt_of_lt_of_le hb hN) (by simp)];exact ho
noncomputable def z79(call:zc)(t1:Bytes)(h_10:AHeap)(t9:Int)(v80:AV)(k120:AHeap→R)(self:Int→AHeap→R)(t12:Int)(h_124:AHeap):R:=obind (z7 h_124 (AV.ptr (AHeap.next h_10) 2)) fun v86=>obind (avInt .i64 v86) fun t86=>lett (decide (t12<t86)) fun (t87:Bool)=>ifB t87 (obind (z7 h_124 (AV.ptr (AHeap.next h_10) 2)) fun v94=>obind (avInt .i64 v94) fun t94=>obind (z1ae t1 t12 t94) fun t95=>callN (call 26 [v80,strA t95] h_124) fun r96 h_136=>obind (z23 r96) fun t96=>obind (z7 h_136 (AV.ptr (AHeap.next h_10) 0)) fun v99=>obind (avInt .i64 v99) fun t99=>lett (decide (t9<t99)) fun (t100:Bool)=>lett (fun (t103:Bool) (h_143:AHeap)=>lett (fun (t123:Bool) (h_146:AHeap)=>ifB t123 (some (.ret (.bool false),h_146)) (lett (IntKind.i64.wrap (t12+1)) fun (t89:Int)=>self t89 h_146)) fun j123=>ifB t103 (j123 true h_143) (obind (z7 h_143 (AV.ptr (AHeap.next h_10) 0)) fun v107=>obind (avInt .i64 v107) fun t107=>lett ((t9:Int) == t107) fun (t108:Bool)=>lett (fun (t114:Bool) (h_154:AHeap)=>lett (fun (t122:Bool) (h_157:AHeap)=>j123 t122 h_157) fun j122=>ifB t114 (obind (z7 h_154 (AV.ptr (AHeap.next h_10) 1)) fun v119=>obind (avInt .i64 v119) fun t119=>lett ((t12:Int) == t119) fun (t120:Bool)=>lett (!((t96:Bool) == t120)) fun (t121:Bool)=>j122 t121 h_154) (j122 false h_154)) fun j114=>ifB t108 (obind (z7 h_143 (AV.ptr (AHeap.next h_10) 1)) fun v112=>obind (avInt .i64 v112) fun t112=>lett (decide (t12≤t112)) fun (t113:Bool)=>j114 t113 h_143) (j114 false h_143))) fun j103=>ifB t100 (j103 t96 h_136) (j103 false h_136)) (k120 h_124)
noncomputable def z8c(call:zc)(t1:Bytes)(h_10:AHeap)(t9:Int)(v80:AV)(k120:AHeap→R):Nat→Int→AHeap→R:=ze6 (fun _ _=>none) (z79 call t1 h_10 t9 v80 k120)
theorem zd3(call:zc)(t1:Bytes)(h_10:AHeap)(t9:Int)(v80:AV)(k120:AHeap→R)(m:Nat):z8c call t1 h_10 t9 v80 k120 (m+1)=z79 call t1 h_10 t9 v80 k120 (z8c call t1 h_10 t9 v80 k120 m):=rfl
noncomputable def z7a(call:zc)(n:Nat)(t0:AV)(t1:Bytes)(h_10:AHeap)(k54:AHeap→R)(self:Int→AHeap→R)(t9:Int)(h_98:AHeap):R:=obind (z7 h_98 (AV.ptr (AHeap.next h_10) 0)) fun v70=>obind (avInt .i64 v70) fun t70=>lett (decide (t9≤t70)) fun (t71:Bool)=>ifB t71 (obind (z1a8 2 t0 t9) fun t77=>obind (z16 h_98 2 t77) fun t78=>callN (call 25 [.agg t78] h_98) fun r79 h_109=>obind (z153 0 r79) fun v80=>obind (z153 1 r79) fun v81=>obind (avInt .i64 v81) fun t81=>lett ((t81:Int) != 0) fun (t83:Bool)=>ifB t83 (some (.ret (.bool false),h_109)) (lett (fun (h_121:AHeap)=>lett (IntKind.i64.wrap (t9+1)) fun (t73:Int)=>self t73 h_121) fun k120=>z8c call t1 h_10 t9 v80 k120 n 0 h_109)) (k54 h_98)
noncomputable def z8d(call:zc)(n:Nat)(t0:AV)(t1:Bytes)(h_10:AHeap)(k54:AHeap→R):Nat→Int→AHeap→R:=ze6 (fun _ _=>none) (z7a call n t0 t1 h_10 k54)
theorem zd4(call:zc)(n:Nat)(t0:AV)(t1:Bytes)(h_10:AHeap)(k54:AHeap→R)(m:Nat):z8d call n t0 t1 h_10 k54 (m+1)=z7a call n t0 t1 h_10 k54 (z8d call n t0 t1 h_10 k54 m):=rfl
noncomputable def zf4(call:zc)(n:Nat)(t0:AV)(t1:Bytes)(t2:Bytes)(h:AHeap):R:=callN (call 12 [] h) fun r18 h_4=>obind (z23 r18) fun t18=>lett (!t18) fun (t19:Bool)=>ifB t19 (some (.ret (.bool false),h_4)) (callN (call 14 [t0,strA t1] h_4) fun r23 h_10=>obind (z153 0 r23) fun v24=>obind (z65 v24) fun t24=>obind (z153 1 r23) fun v25=>obind (z23 v25) fun t25=>lett (newH h_10 26 [.int .i64 0,.int .i64 0,.int .i64 0]) fun h_16=>obind (z15 h_16 3 t24 (z6 h_10)) fun h_18=>lett (decide ((z115 t1)>200)) fun (t28:Bool)=>lett (fun (t33:Bool) (h_23:AHeap)=>ifB t33 (some (.ret (.bool true),h_23)) (lett (!t25) fun (t35:Bool)=>ifB t35 (obind (z16 h_23 3 (z6 h_10)) fun t36=>obind (zb2 Tryd.prog 26 (.agg t36) (.agg ([.int .i64 0,.int .i64 0,.int .i64 0]:List AV))) fun t38=>some (.ret (.bool t38),h_23)) (obind (z7 h_23 (AV.ptr (AHeap.next h_10) 0)) fun v40=>obind (avInt .i64 v40) fun t40=>lett (decide (t40<0)) fun (t41:Bool)=>lett (fun (t48:Bool) (h_38:AHeap)=>lett (fun (t53:Bool) (h_41:AHeap)=>lett (fun (t60:Bool) (h_44:AHeap)=>lett (fun (t67:Bool) (h_47:AHeap)=>ifB t67 (some (.ret (.bool false),h_47)) (lett (fun (h_55:AHeap)=>obind (z7 h_55 (AV.ptr (AHeap.next h_10) 2)) fun v128=>obind (avInt .i64 v128) fun t128=>lett (IntKind.i64.wrap (t128 - 1)) fun (t129:Int)=>obind (z1ae t1 0 t129) fun t130=>callN (call 14 [t0,strA t130] h_55) fun r131 h_61=>obind (z153 0 r131) fun v132=>obind (z65 v132) fun t132=>obind (z153 1 r131) fun v133=>obind (z23 v133) fun t133=>lett (newH h_61 26 [.int .i64 0,.int .i64 0,.int .i64 0]) fun h_67=>obind (z15 h_67 3 t132 (z6 h_61)) fun h_69=>obind (z7 h_69 (AV.ptr (AHeap.next h_10) 2)) fun v138=>obind (avInt .i64 v138) fun t138=>obind (z1ae t1 0 t138) fun t139=>obind (addS t139 t2) fun t141=>callN (call 14 [t0,strA t141] h_69) fun r142 h_76=>obind (z153 0 r142) fun v143=>obind (z65 v143) fun t143=>obind (z153 1 r142) fun v144=>obind (z23 v144) fun t144=>lett (newH h_76 26 [.int .i64 0,.int .i64 0,.int .i64 0]) fun h_82=>obind (z15 h_82 3 t143 (z6 h_76)) fun h_84=>lett (!t133) fun (t146:Bool)=>lett (fun (t149:Bool) (h_88:AHeap)=>lett (fun (t154:Bool) (h_91:AHeap)=>some (.ret (.bool t154),h_91)) fun j154=>ifB t149 (obind (z16 h_88 3 (z6 h_76)) fun t151=>obind (z16 h_88 3 (z6 h_10)) fun t152=>obind (zb2 Tryd.prog 26 (.agg t151) (.agg t152)) fun t153=>j154 t153 h_88) (j154 false h_88)) fun j149=>ifB t146 (j149 t144 h_84) (j149 false h_84)) fun k54=>z8d call n t0 t1 h_10 k54 n 0 h_47)) fun j67=>ifB t60 (j67 true h_44) (obind (z7 h_44 (AV.ptr (AHeap.next h_10) 2)) fun v63=>obind (avInt .i64 v63) fun t63=>lett (decide (t63>(z115 t1))) fun (t66:Bool)=>j67 t66 h_44)) fun j60=>ifB t53 (j60 true h_41) (obind (z7 h_41 (AV.ptr (AHeap.next h_10) 1)) fun v56=>obind (avInt .i64 v56) fun t56=>obind (z7 h_41 (AV.ptr (AHeap.next h_10) 2)) fun v58=>obind (avInt .i64 v58) fun t58=>lett (decide (t56≥t58)) fun (t59:Bool)=>j60 t59 h_41)) fun j53=>ifB t48 (j53 true h_38) (obind (z7 h_38 (AV.ptr (AHeap.next h_10) 1)) fun v51=>obind (avInt .i64 v51) fun t51=>lett (decide (t51<0)) fun (t52:Bool)=>j53 t52 h_38)) fun j48=>ifB t41 (j48 true h_23) (obind (z7 h_23 (AV.ptr (AHeap.next h_10) 0)) fun v44=>obind (avInt .i64 v44) fun t44=>obind (z17d t0) fun t46=>lett (decide (t44≥t46)) fun (t47:Bool)=>j48 t47 h_23)))) fun j33=>ifB t28 (j33 true h_18) (lett (decide ((z115 t2)>200)) fun (t32:Bool)=>j33 t32 h_18))
set_option maxHeartbeats 4000000 in
set_option maxRecDepth 20000 in
theorem z201{call:zc}(hc:SaysAll Tryd.prog call){n:Nat}{t0:AV}{t1:Bytes}{t2:Bytes}{h:AHeap}{rR:ARes}{hR:AHeap}(hF:zf4 call n t0 t1 t2 h=some (rR,hR)):Says Tryd.prog 7 [t0,strA t1,strA t2] h rR hR:=by
 unfold zf4 at hF;refine sO Tryd.func7 fun w0 m0=>?_;refine wW [(0,t0),(1,strA t1),(2,strA t2)] ?_;refine oG fun n1=>W.r ?_;refine oA 6 (.bool false) ?_;refine oV [(0,t0),(1,strA t1),(2,strA t2)] (n1 ?_);refine oH fun n2 q2=>?_;refine oG fun n3=>W.r ?_;refine oCb hc 18 hF fun t18 h_4 hF=>?_;refine oB 19 hF fun t19 hF=>?_;refine oV [(0,t0),(1,strA t1),(2,strA t2),(19,.bool t19)] (n3 ?_)
 cases t19 with
 |true=>
  refine oT hF fun hF=>?_;refine oG fun n8=>W.r ?_;refine oA 6 (.bool false) ?_;refine oV [(6,.bool false)] (n8 (oY (q2 ?_)));exact lZ hF [.tmp 6] [.bool false] (rT zd)
 |false=>
  refine oU hF fun hF=>?_;refine oZ (n2 ?_);refine oG fun n9=>W.r ?_;refine oA 21 t0 ?_;refine oA 22 (strA t1) ?_;refine oC hc (some 23) hF fun r23 h_10 hF=>?_;refine oA 20 r23 ?_;refine oEa 24 hF fun t24 hF=>?_;refine oEb 25 hF fun t25 hF=>?_;refine oN 7 hF fun h_16 hF=>?_;refine oW 26 (.agg t24) hF fun h_18 hF=>?_;refine oA 8 (.bool t25) ?_;refine oV [(0,t0),(1,strA t1),(2,strA t2),(7,(z6 h_10)),(8,.bool t25)] (n9 ?_);refine oH fun n20 q20=>?_;refine W.s (fun K21 n21 e21 q21 p21=>?_);refine W.r ?_;refine oA 26 (strA t1) ?_;refine oA 27 (.int .i64 (z115 t1)) ?_;refine oB 28 hF fun t28 hF=>?_;refine oA 29 (.bool t28) ?_;obtain⟨j33,e24,hF⟩:=z9 hF
  have J25:∀(t33:Bool) (h_23:AHeap),j33 t33 h_23=some (rR,hR)→WL Tryd.prog w0 m0 (Func.ntmps Tryd.f7) (Code.ops (y4 (y4 (y3 (y3 (y3 (z55 Tryd.f7))))))) 8 K21 [(0,t0),(1,strA t1),(2,strA t2),(7,(z6 h_10)),(8,.bool t25),(33,.bool t33)] [] h_23:=by
   intro t33 h_23 hF;rw[e24] at hF;refine oV [(0,t0),(1,strA t1),(2,strA t2),(7,(z6 h_10)),(8,.bool t25),(33,.bool t33)] (n21 ?_)
   cases t33 with
   |true=>
    refine oT hF fun hF=>?_;refine oG fun n26=>W.r ?_;refine oA 6 (.bool true) ?_;refine oV [(6,.bool true)] (n26 (oY (q20 ?_)));exact lZ hF [.tmp 6] [.bool true] (rT zd)
   |false=>
    refine oU hF fun hF=>?_;refine oZ (n20 ?_);refine oH fun n27 q27=>?_;refine oG fun n28=>W.r ?_;refine oA 34 (.bool t25) ?_;refine oB 35 hF fun t35 hF=>?_;refine oV [(0,t0),(1,strA t1),(2,strA t2),(7,(z6 h_10)),(35,.bool t35)] (n28 ?_)
    cases t35 with
    |true=>
     refine oT hF fun hF=>?_;refine oG fun n30=>W.r ?_;refine oR 36 26 hF fun t36 hF=>?_;refine oA 37 (.agg ([.int .i64 0,.int .i64 0,.int .i64 0]:List AV)) ?_;obtain⟨t38,e32,hF⟩:=z3 hF;refine WL.b (some 38) (.bool t38) h_23 (z293 (P:=Tryd.prog) (h:=h_23) (t:=26) (lit:=false) (by kernel_rfl) e32) ?_;refine oA 6 (.bool t38) ?_;refine oV [(6,.bool t38)] (n30 (oY (q27 ?_)));exact lZ hF [.tmp 6] [.bool t38] (rT zd)
    |false=>
     refine oU hF fun hF=>?_;refine oZ (n27 ?_);refine oH fun n33 q33=>?_;refine W.s (fun K34 n34 e34 q34 p34=>?_);refine W.r ?_;refine oA 39 (AV.ptr (AHeap.next h_10) 0) ?_;refine oLi 40 3 hF fun t40 hF=>?_;refine oB 41 hF fun t41 hF=>?_;refine oA 42 (.bool t41) ?_;obtain⟨j48,e39,hF⟩:=z9 hF
     have J40:∀(t48:Bool) (h_38:AHeap),j48 t48 h_38=some (rR,hR)→WL Tryd.prog w0 m0 (Func.ntmps Tryd.f7) (Code.ops (y4 (y4 (y3 (y3 (y3 (y3 (y3 (z55 Tryd.f7))))))))) 10 K34 [(0,t0),(1,strA t1),(2,strA t2),(7,(z6 h_10)),(48,.bool t48)] [] h_38:=by
      intro t48 h_38 hF;rw[e39] at hF;refine oA 49 (.bool t48) ?_;obtain⟨j53,e42,hF⟩:=z9 hF
      have J43:∀(t53:Bool) (h_41:AHeap),j53 t53 h_41=some (rR,hR)→WL Tryd.prog w0 m0 (Func.ntmps Tryd.f7) (Code.ops (y4 (y4 (y3 (y3 (y3 (y3 (y3 (z55 Tryd.f7))))))))) 15 K34 [(0,t0),(1,strA t1),(2,strA t2),(7,(z6 h_10)),(53,.bool t53)] [] h_41:=by
       intro t53 h_41 hF;rw[e42] at hF;refine oA 54 (.bool t53) ?_;obtain⟨j60,e45,hF⟩:=z9 hF
       have J46:∀(t60:Bool) (h_44:AHeap),j60 t60 h_44=some (rR,hR)→WL Tryd.prog w0 m0 (Func.ntmps Tryd.f7) (Code.ops (y4 (y4 (y3 (y3 (y3 (y3 (y3 (z55 Tryd.f7))))))))) 22 K34 [(0,t0),(1,strA t1),(2,strA t2),(7,(z6 h_10)),(60,.bool t60)] [] h_44:=by
        intro t60 h_44 hF;rw[e45] at hF;refine oA 61 (.bool t60) ?_;obtain⟨j67,e48,hF⟩:=z9 hF
        have J49:∀(t67:Bool) (h_47:AHeap),j67 t67 h_47=some (rR,hR)→WL Tryd.prog w0 m0 (Func.ntmps Tryd.f7) (Code.ops (y4 (y4 (y3 (y3 (y3 (y3 (y3 (z55 Tryd.f7))))))))) 29 K34 [(0,t0),(1,strA t1),(2,strA t2),(7,(z6 h_10)),(67,.bool t67)] [] h_47:=by
         intro t67 h_47 hF;rw[e48] at hF;refine oV [(0,t0),(1,strA t1),(2,strA t2),(7,(z6 h_10)),(67,.bool t67)] (n34 ?_)
         cases t67 with
         |true=>
          refine oT hF fun hF=>?_;refine oG fun n50=>W.r ?_;refine oA 6 (.bool false) ?_;refine oV [(6,.bool false)] (n50 (oY (q33 ?_)));exact lZ hF [.tmp 6] [.bool false] (rT zd)
         |false=>
          refine oU hF fun hF=>?_;refine oZ (n33 ?_);refine W.s (fun K51 n51 e51 q51 p51=>?_);refine oG fun n52=>W.r ?_;refine oA 9 (.int .i64 0) ?_;refine oV [(0,t0),(1,strA t1),(2,strA t2),(7,(z6 h_10)),(9,.int .i64 0)] (n52 ?_);obtain⟨k54,e54,hF⟩:=z9 hF
          have J54:∀(h_55:AHeap),k54 h_55=some (rR,hR)→Go w0 m0 (Func.ntmps Tryd.f7) (K51 .normal) [(0,t0),(1,strA t1),(2,strA t2),(7,(z6 h_10))] [] h_55:=by
           intro h_55 hF;rw[e54] at hF;refine n51 ?_;refine oG fun n56=>W.r ?_;refine oA 125 t0 ?_;refine oA 126 (strA t1) ?_;refine oA 127 (AV.ptr (AHeap.next h_10) 2) ?_;refine oLi 128 3 hF fun t128 hF=>?_;refine oI 129 .i64 hF fun t129 hF=>?_;obtain⟨t130,e60,hF⟩:=z3 hF;refine WL.b (some 130) (strA t130) h_55 (z1ad (P:=Tryd.prog) (h:=h_55) (t:=9) (A:=none) (B:=(some (.int .i64 t129))) (by kernel_rfl) (.inr ⟨rfl,rfl⟩) (.inl ⟨_,rfl⟩) e60) ?_;refine oC hc (some 131) hF fun r131 h_61 hF=>?_;refine oA 124 r131 ?_;refine oEa 132 hF fun t132 hF=>?_;refine oEb 133 hF fun t133 hF=>?_;refine oN 14 hF fun h_67 hF=>?_;refine oW 26 (.agg t132) hF fun h_69 hF=>?_;refine oA 15 (.bool t133) ?_;refine oV [(0,t0),(1,strA t1),(2,strA t2),(7,(z6 h_10)),(15,.bool t133)] (n56 ?_);refine oG fun n71=>W.r ?_;refine oA 135 t0 ?_;refine oA 136 (strA t1) ?_;refine oA 137 (AV.ptr (AHeap.next h_10) 2) ?_;refine oLi 138 3 hF fun t138 hF=>?_;obtain⟨t139,e74,hF⟩:=z3 hF;refine WL.b (some 139) (strA t139) h_69 (z1ad (P:=Tryd.prog) (h:=h_69) (t:=9) (A:=none) (B:=(some (.int .i64 t138))) (by kernel_rfl) (.inr ⟨rfl,rfl⟩) (.inl ⟨_,rfl⟩) e74) ?_;refine oA 140 (strA t2) ?_;obtain⟨t141,e75,hF⟩:=z3 hF;refine WL.b (some 141) (strA t141) h_69 (add_str (P:=Tryd.prog) (h:=h_69) (t:=9) (lit:=false) e75) ?_;refine oC hc (some 142) hF fun r142 h_76 hF=>?_;refine oA 134 r142 ?_;refine oEa 143 hF fun t143 hF=>?_;refine oEb 144 hF fun t144 hF=>?_;refine oN 16 hF fun h_82 hF=>?_;refine oW 26 (.agg t143) hF fun h_84 hF=>?_;refine oA 17 (.bool t144) ?_;refine oV [(7,(z6 h_10)),(15,.bool t133),(16,(z6 h_76)),(17,.bool t144)] (n71 ?_);refine W.s (fun K86 n86 e86 q86 p86=>?_);refine W.r ?_;refine oA 145 (.bool t133) ?_;refine oB 146 hF fun t146 hF=>?_;refine oA 147 (.bool t146) ?_;obtain⟨j149,e89,hF⟩:=z9 hF
           have J90:∀(t149:Bool) (h_88:AHeap),j149 t149 h_88=some (rR,hR)→WL Tryd.prog w0 m0 (Func.ntmps Tryd.f7) (Code.ops (y4 (y3 (y3 (y3 (y3 (y3 (y3 (y3 (y3 (y3 (z55 Tryd.f7)))))))))))) 5 K86 [(7,(z6 h_10)),(16,(z6 h_76)),(149,.bool t149)] [] h_88:=by
            intro t149 h_88 hF;rw[e89] at hF;refine oA 150 (.bool t149) ?_;obtain⟨j154,e92,hF⟩:=z9 hF
            have J93:∀(t154:Bool) (h_91:AHeap),j154 t154 h_91=some (rR,hR)→WL Tryd.prog w0 m0 (Func.ntmps Tryd.f7) (Code.ops (y4 (y3 (y3 (y3 (y3 (y3 (y3 (y3 (y3 (y3 (z55 Tryd.f7)))))))))))) 10 K86 [(154,.bool t154)] [] h_91:=by
             intro t154 h_91 hF;rw[e92] at hF;refine oA 6 (.bool t154) ?_;refine oV [(6,.bool t154)] (n86 (oY ?_));exact lZ hF [.tmp 6] [.bool t154] (rT zd)
            cases t149 with
            |true=>
             replace hF:=zc3 hF
             refine oR 151 26 hF fun t151 hF=>?_;refine oR 152 26 hF fun t152 hF=>?_;obtain⟨t153,e96,hF⟩:=z3 hF;refine WL.b (some 153) (.bool t153) h_88 (z293 (P:=Tryd.prog) (h:=h_88) (t:=26) (lit:=false) (by kernel_rfl) e96) ?_;refine oA 154 (.bool t153) ?_;exact lW _ (J93 _ _ hF)
            |false=>
             replace hF:=zc4 hF
             refine WL.o (some 151) ?_;refine WL.o (some 152) ?_;refine WL.o (some 153) ?_;refine oA 154 (.bool false) ?_;exact lW _ (J93 _ _ hF)
           cases t146 with
           |true=>
            replace hF:=zc3 hF
            refine oA 148 (.bool t144) ?_;refine oA 149 (.bool t144) ?_;exact lW _ (J90 _ _ hF)
           |false=>
            replace hF:=zc4 hF
            refine WL.o (some 148) ?_;refine oA 149 (.bool false) ?_;exact lW _ (J90 _ _ hF)
          refine yc (by kernel_rfl) (fun K53 n53 s53 o53 q53 p53=>?_);refine y14 (by kernel_rfl) (fun I97 K97 b97 n97 e97 q97 p97=>?_)
          have L97:∀(m:Nat) (t9:Int) (h_98:AHeap),z8d call n t0 t1 h_10 k54 m t9 h_98=some (rR,hR)→Go w0 m0 (Func.ntmps Tryd.f7) I97 [(0,t0),(1,strA t1),(2,strA t2),(7,(z6 h_10)),(9,.int .i64 t9)] [] h_98:=by
           intro m
           induction m with
           |zero=>intro t9 h_98 hF;cases hF
           |succ m ih97=>
            intro t9 h_98 hF;rw[zd4] at hF;unfold z7a at hF;refine b97 ?_;refine W.s (fun K99 n99 e99 q99 p99=>?_);refine oG fun n100=>W.r ?_;refine oA 68 (.int .i64 t9) ?_;refine oA 69 (AV.ptr (AHeap.next h_10) 0) ?_;refine oLi 70 3 hF fun t70 hF=>?_;refine oB 71 hF fun t71 hF=>?_;refine oV [(0,t0),(1,strA t1),(2,strA t2),(7,(z6 h_10)),(9,.int .i64 t9),(71,.bool t71)] (n100 ?_)
            cases t71 with
            |true=>
             refine oT hF fun hF=>?_;refine oZ (n99 ?_);refine oH fun n104 q104=>?_;refine yc (by kernel_rfl) (fun K105 n105 s105 o105 q105 p105=>?_);refine oG fun n106=>W.r ?_;refine oA 75 t0 ?_;refine oA 76 (.int .i64 t9) ?_;refine oP 77 22 51 .i64 hF fun t77 hF=>?_;refine oR 78 51 hF fun t78 hF=>?_;refine oC hc (some 79) hF fun r79 h_109 hF=>?_;refine oA 74 r79 ?_;refine oE 80 hF fun v80 hF=>?_;refine oEi 81 hF fun t81 hF=>?_;refine oA 10 v80 ?_;refine oA 11 (.int .i64 t81) ?_;refine oV [(0,t0),(1,strA t1),(2,strA t2),(7,(z6 h_10)),(9,.int .i64 t9),(10,v80),(11,.int .i64 t81)] (n106 ?_);refine oH fun n114 q114=>?_;refine oG fun n115=>W.r ?_;refine oA 82 (.int .i64 t81) ?_;refine oB 83 hF fun t83 hF=>?_;refine oV [(0,t0),(1,strA t1),(2,strA t2),(7,(z6 h_10)),(9,.int .i64 t9),(10,v80),(83,.bool t83)] (n115 ?_)
             cases t83 with
             |true=>
              refine oT hF fun hF=>?_;refine oG fun n117=>W.r ?_;refine oA 6 (.bool false) ?_;refine oV [(6,.bool false)] (n117 (oY (q114 (q105 (q104 (q97 (q53 (q51 ?_))))))));exact lZ hF [.tmp 6] [.bool false] (rT zd)
             |false=>
              refine oU hF fun hF=>?_;refine oZ (n114 ?_);refine oG fun n118=>W.r ?_;refine oA 12 (.int .i64 0) ?_;refine oV [(0,t0),(1,strA t1),(2,strA t2),(7,(z6 h_10)),(9,.int .i64 t9),(10,v80),(12,.int .i64 0)] (n118 ?_);obtain⟨k120,e120,hF⟩:=z9 hF
              have J120:∀(h_121:AHeap),k120 h_121=some (rR,hR)→Go w0 m0 (Func.ntmps Tryd.f7) (K105 .normal) [(0,t0),(1,strA t1),(2,strA t2),(7,(z6 h_10)),(9,.int .i64 t9)] [] h_121:=by
               intro h_121 hF;rw[e120] at hF;refine n105 (n104 (W.r ?_));refine oA 72 (.int .i64 t9) ?_;refine oI 73 .i64 hF fun t73 hF=>?_;refine oA 9 (.int .i64 t73) ?_;refine oV [(0,t0),(1,strA t1),(2,strA t2),(7,(z6 h_10)),(9,.int .i64 t73)] (n97 ?_);exact gW _ (ih97 _ _ hF)
              refine yc (by kernel_rfl) (fun K119 n119 s119 o119 q119 p119=>?_);refine y14 (by kernel_rfl) (fun I123 K123 b123 n123 e123 q123 p123=>?_)
              have L123:∀(m:Nat) (t12:Int) (h_124:AHeap),z8c call t1 h_10 t9 v80 k120 m t12 h_124=some (rR,hR)→Go w0 m0 (Func.ntmps Tryd.f7) I123 [(0,t0),(1,strA t1),(2,strA t2),(7,(z6 h_10)),(9,.int .i64 t9),(10,v80),(12,.int .i64 t12)] [] h_124:=by
               intro m
               induction m with
               |zero=>intro t12 h_124 hF;cases hF
               |succ m ih123=>
                intro t12 h_124 hF;rw[zd3] at hF;unfold z79 at hF;refine b123 ?_;refine W.s (fun K125 n125 e125 q125 p125=>?_);refine oG fun n126=>W.r ?_;refine oA 84 (.int .i64 t12) ?_;refine oA 85 (AV.ptr (AHeap.next h_10) 2) ?_;refine oLi 86 3 hF fun t86 hF=>?_;refine oB 87 hF fun t87 hF=>?_;refine oV [(0,t0),(1,strA t1),(2,strA t2),(7,(z6 h_10)),(9,.int .i64 t9),(10,v80),(12,.int .i64 t12),(87,.bool t87)] (n126 ?_)
                cases t87 with
                |true=>
                 refine oT hF fun hF=>?_;refine oZ (n125 ?_);refine oH fun n130 q130=>?_;refine yc (by kernel_rfl) (fun K131 n131 s131 o131 q131 p131=>?_);refine oG fun n132=>W.r ?_;refine oA 90 v80 ?_;refine oA 91 (strA t1) ?_;refine oA 92 (.int .i64 t12) ?_;refine oA 93 (AV.ptr (AHeap.next h_10) 2) ?_;refine oLi 94 3 hF fun t94 hF=>?_;obtain⟨t95,e135,hF⟩:=z3 hF;refine WL.b (some 95) (strA t95) h_124 (z1ad (P:=Tryd.prog) (h:=h_124) (t:=9) (A:=(some (.int .i64 t12))) (B:=(some (.int .i64 t94))) (by kernel_rfl) (.inl ⟨_,rfl⟩) (.inl ⟨_,rfl⟩) e135) ?_;refine oCb hc 96 hF fun t96 h_136 hF=>?_;refine oA 13 (.bool t96) ?_;refine oV [(0,t0),(1,strA t1),(2,strA t2),(7,(z6 h_10)),(9,.int .i64 t9),(10,v80),(12,.int .i64 t12),(13,.bool t96)] (n132 ?_);refine W.s (fun K139 n139 e139 q139 p139=>?_);refine W.r ?_;refine oA 97 (.int .i64 t9) ?_;refine oA 98 (AV.ptr (AHeap.next h_10) 0) ?_;refine oLi 99 3 hF fun t99 hF=>?_;refine oB 100 hF fun t100 hF=>?_;refine oA 101 (.bool t100) ?_;obtain⟨j103,e144,hF⟩:=z9 hF
                 have J145:∀(t103:Bool) (h_143:AHeap),j103 t103 h_143=some (rR,hR)→WL Tryd.prog w0 m0 (Func.ntmps Tryd.f7) (Code.ops (y4 (y3 (y4 (y4 (y3 (y4 (y4 (y3 (y3 (y3 (y4 (y4 (y3 (y4 (y4 (y3 (y4 (y3 (y3 (y3 (y3 (y3 (y3 (z55 Tryd.f7))))))))))))))))))))))))) 7 K139 [(0,t0),(1,strA t1),(2,strA t2),(7,(z6 h_10)),(9,.int .i64 t9),(10,v80),(12,.int .i64 t12),(13,.bool t96),(103,.bool t103)] [] h_143:=by
                  intro t103 h_143 hF;rw[e144] at hF;refine oA 104 (.bool t103) ?_;obtain⟨j123,e147,hF⟩:=z9 hF
                  have J148:∀(t123:Bool) (h_146:AHeap),j123 t123 h_146=some (rR,hR)→WL Tryd.prog w0 m0 (Func.ntmps Tryd.f7) (Code.ops (y4 (y3 (y4 (y4 (y3 (y4 (y4 (y3 (y3 (y3 (y4 (y4 (y3 (y4 (y4 (y3 (y4 (y3 (y3 (y3 (y3 (y3 (y3 (z55 Tryd.f7))))))))))))))))))))))))) 27 K139 [(0,t0),(1,strA t1),(2,strA t2),(7,(z6 h_10)),(9,.int .i64 t9),(10,v80),(12,.int .i64 t12),(123,.bool t123)] [] h_146:=by
                   intro t123 h_146 hF;rw[e147] at hF;refine oV [(0,t0),(1,strA t1),(2,strA t2),(7,(z6 h_10)),(9,.int .i64 t9),(10,v80),(12,.int .i64 t12),(123,.bool t123)] (n139 ?_)
                   cases t123 with
                   |true=>
                    refine oT hF fun hF=>?_;refine oG fun n149=>W.r ?_;refine oA 6 (.bool false) ?_;refine oV [(6,.bool false)] (n149 (oY (q131 (q130 (q123 (q119 (q105 (q104 (q97 (q53 (q51 ?_)))))))))));exact lZ hF [.tmp 6] [.bool false] (rT zd)
                   |false=>
                    refine oU hF fun hF=>?_;refine oZ (n131 (n130 (W.r ?_)));refine oA 88 (.int .i64 t12) ?_;refine oI 89 .i64 hF fun t89 hF=>?_;refine oA 12 (.int .i64 t89) ?_;refine oV [(0,t0),(1,strA t1),(2,strA t2),(7,(z6 h_10)),(9,.int .i64 t9),(10,v80),(12,.int .i64 t89)] (n123 ?_);exact gW _ (ih123 _ _ hF)
                  cases t103 with
                  |true=>
                   replace hF:=zc3 hF
                   refine WL.o (some 105) ?_;refine WL.o (some 106) ?_;refine WL.o (some 107) ?_;refine WL.o (some 108) ?_;refine WL.o (some 109) ?_;refine WL.o (some 110) ?_;refine WL.o (some 111) ?_;refine WL.o (some 112) ?_;refine WL.o (some 113) ?_;refine WL.o (some 114) ?_;refine WL.o (some 115) ?_;refine WL.o (some 116) ?_;refine WL.o (some 117) ?_;refine WL.o (some 118) ?_;refine WL.o (some 119) ?_;refine WL.o (some 120) ?_;refine WL.o (some 121) ?_;refine WL.o (some 122) ?_;refine oA 123 (.bool true) ?_;exact lW _ (J148 _ _ hF)
                  |false=>
                   replace hF:=zc4 hF
                   refine oA 105 (.int .i64 t9) ?_;refine oA 106 (AV.ptr (AHeap.next h_10) 0) ?_;refine oLi 107 3 hF fun t107 hF=>?_;refine oB 108 hF fun t108 hF=>?_;refine oA 109 (.bool t108) ?_;obtain⟨j114,e155,hF⟩:=z9 hF
                   have J156:∀(t114:Bool) (h_154:AHeap),j114 t114 h_154=some (rR,hR)→WL Tryd.prog w0 m0 (Func.ntmps Tryd.f7) (Code.ops (y4 (y3 (y4 (y4 (y3 (y4 (y4 (y3 (y3 (y3 (y4 (y4 (y3 (y4 (y4 (y3 (y4 (y3 (y3 (y3 (y3 (y3 (y3 (z55 Tryd.f7))))))))))))))))))))))))) 18 K139 [(0,t0),(1,strA t1),(2,strA t2),(7,(z6 h_10)),(9,.int .i64 t9),(10,v80),(12,.int .i64 t12),(13,.bool t96),(104,.bool false),(114,.bool t114)] [] h_154:=by
                    intro t114 h_154 hF;rw[e155] at hF;refine oA 115 (.bool t114) ?_;obtain⟨j122,e158,hF⟩:=z9 hF
                    have J159:∀(t122:Bool) (h_157:AHeap),j122 t122 h_157=some (rR,hR)→WL Tryd.prog w0 m0 (Func.ntmps Tryd.f7) (Code.ops (y4 (y3 (y4 (y4 (y3 (y4 (y4 (y3 (y3 (y3 (y4 (y4 (y3 (y4 (y4 (y3 (y4 (y3 (y3 (y3 (y3 (y3 (y3 (z55 Tryd.f7))))))))))))))))))))))))) 26 K139 [(0,t0),(1,strA t1),(2,strA t2),(7,(z6 h_10)),(9,.int .i64 t9),(10,v80),(12,.int .i64 t12),(104,.bool false),(122,.bool t122)] [] h_157:=by
                     intro t122 h_157 hF;rw[e158] at hF;refine oA 123 (.bool t122) ?_;exact lW _ (J148 _ _ hF)
                    cases t114 with
                    |true=>
                     replace hF:=zc3 hF
                     refine oA 116 (.bool t96) ?_;refine oA 117 (.int .i64 t12) ?_;refine oA 118 (AV.ptr (AHeap.next h_10) 1) ?_;refine oLi 119 3 hF fun t119 hF=>?_;refine oB 120 hF fun t120 hF=>?_;refine oB 121 hF fun t121 hF=>?_;refine oA 122 (.bool t121) ?_;exact lW _ (J159 _ _ hF)
                    |false=>
                     replace hF:=zc4 hF
                     refine WL.o (some 116) ?_;refine WL.o (some 117) ?_;refine WL.o (some 118) ?_;refine WL.o (some 119) ?_;refine WL.o (some 120) ?_;refine WL.o (some 121) ?_;refine oA 122 (.bool false) ?_;exact lW _ (J159 _ _ hF)
                   cases t108 with
                   |true=>
                    replace hF:=zc3 hF
                    refine oA 110 (.int .i64 t12) ?_;refine oA 111 (AV.ptr (AHeap.next h_10) 1) ?_;refine oLi 112 3 hF fun t112 hF=>?_;refine oB 113 hF fun t113 hF=>?_;refine oA 114 (.bool t113) ?_;exact lW _ (J156 _ _ hF)
                   |false=>
                    replace hF:=zc4 hF
                    refine WL.o (some 110) ?_;refine WL.o (some 111) ?_;refine WL.o (some 112) ?_;refine WL.o (some 113) ?_;refine oA 114 (.bool false) ?_;exact lW _ (J156 _ _ hF)
                 cases t100 with
                 |true=>
                  replace hF:=zc3 hF
                  refine oA 102 (.bool t96) ?_;refine oA 103 (.bool t96) ?_;exact lW _ (J145 _ _ hF)
                 |false=>
                  replace hF:=zc4 hF
                  refine WL.o (some 102) ?_;refine oA 103 (.bool false) ?_;exact lW _ (J145 _ _ hF)
                |false=>
                 refine oU hF fun hF=>?_;refine W.exit (by kernel_rfl) ?_;refine e125 (e123 ?_);refine s119 (by kernel_rfl) ?_;exact gW _ (J120 _ hF)
              exact gW _ (L123 _ _ _ hF)
            |false=>
             refine oU hF fun hF=>?_;refine W.exit (by kernel_rfl) ?_;refine e99 (e97 ?_);refine s53 (by kernel_rfl) ?_;exact gW _ (J54 _ hF)
          exact gW _ (L97 _ _ _ hF)
        cases t60 with
        |true=>
         replace hF:=zc3 hF
         refine WL.o (some 62) ?_;refine WL.o (some 63) ?_;refine WL.o (some 64) ?_;refine WL.o (some 65) ?_;refine WL.o (some 66) ?_;refine oA 67 (.bool true) ?_;exact lW _ (J49 _ _ hF)
        |false=>
         replace hF:=zc4 hF
         refine oA 62 (AV.ptr (AHeap.next h_10) 2) ?_;refine oLi 63 3 hF fun t63 hF=>?_;refine oA 64 (strA t1) ?_;refine oA 65 (.int .i64 (z115 t1)) ?_;refine oB 66 hF fun t66 hF=>?_;refine oA 67 (.bool t66) ?_;exact lW _ (J49 _ _ hF)
       cases t53 with
       |true=>
        replace hF:=zc3 hF
        refine WL.o (some 55) ?_;refine WL.o (some 56) ?_;refine WL.o (some 57) ?_;refine WL.o (some 58) ?_;refine WL.o (some 59) ?_;refine oA 60 (.bool true) ?_;exact lW _ (J46 _ _ hF)
       |false=>
        replace hF:=zc4 hF
        refine oA 55 (AV.ptr (AHeap.next h_10) 1) ?_;refine oLi 56 3 hF fun t56 hF=>?_;refine oA 57 (AV.ptr (AHeap.next h_10) 2) ?_;refine oLi 58 3 hF fun t58 hF=>?_;refine oB 59 hF fun t59 hF=>?_;refine oA 60 (.bool t59) ?_;exact lW _ (J46 _ _ hF)
      cases t48 with
      |true=>
       replace hF:=zc3 hF
       refine WL.o (some 50) ?_;refine WL.o (some 51) ?_;refine WL.o (some 52) ?_;refine oA 53 (.bool true) ?_;exact lW _ (J43 _ _ hF)
      |false=>
       replace hF:=zc4 hF
       refine oA 50 (AV.ptr (AHeap.next h_10) 1) ?_;refine oLi 51 3 hF fun t51 hF=>?_;refine oB 52 hF fun t52 hF=>?_;refine oA 53 (.bool t52) ?_;exact lW _ (J43 _ _ hF)
     cases t41 with
     |true=>
      replace hF:=zc3 hF
      refine WL.o (some 43) ?_;refine WL.o (some 44) ?_;refine WL.o (some 45) ?_;refine WL.o (some 46) ?_;refine WL.o (some 47) ?_;refine oA 48 (.bool true) ?_;exact lW _ (J40 _ _ hF)
     |false=>
      replace hF:=zc4 hF
      refine oA 43 (AV.ptr (AHeap.next h_10) 0) ?_;refine oLi 44 3 hF fun t44 hF=>?_;refine oA 45 t0 ?_;refine oM 46 22 51 hF fun t46 hF=>?_;refine oB 47 hF fun t47 hF=>?_;refine oA 48 (.bool t47) ?_;exact lW _ (J40 _ _ hF)
  cases t28 with
  |true=>
   replace hF:=zc3 hF
   refine WL.o (some 30) ?_;refine WL.o (some 31) ?_;refine WL.o (some 32) ?_;refine oA 33 (.bool true) ?_;exact lW _ (J25 _ _ hF)
  |false=>
   replace hF:=zc4 hF
   refine oA 30 (strA t2) ?_;refine oA 31 (.int .i64 (z115 t2)) ?_;refine oB 32 hF fun t32 hF=>?_;refine oA 33 (.bool t32) ?_;exact lW _ (J25 _ _ hF)
theorem eqHitT(a b c:Int):zb2 Tryd.prog z3c0 (.agg [.int .i64 a,.int .i64 b,.int .i64 c]) (.agg [.int .i64 a,.int .i64 b,.int .i64 c])=some true:=by
 rw[eqHit]
 simp
section
variable {n d nb:Nat}{h10 hB:AHeap}{s:Bytes}{a f to i:Nat}{N:Nt}{Q:ARes→AHeap→Prop}
theorem z431{k120:AHeap→R}(hT:HasTz hB)(hN:NtOk N)(hn:18446744073709551616<n)(hs:s.length≤200)(hto:to≤s.length)(kh:RowH hB h10.next z3c0 [.int .i64 (a:Int),.int .i64 (f:Int),.int .i64 (to:Int)])(hh:h10.next<hB.next)(kn:RowH hB nb TNet (netC N))(hnb:nb<hB.next)(hia:i≤a)(m1:i<a→∀j,j<to→zeb N (z217 s j to)=false)(m2:i=a→zeb N (z217 s f to)=true∧∀j,j<f→zeb N (z217 s j to)=false)(hk:∀H,Tch [] hB H→Wp (k120 H) Q):
  ∀(k fu j:Nat) (H:AHeap),k<fu→j+k=to→Tch [] hB H→Wp (z8c (world n (d+4)) s h10 (i:Int) (.ptr nb 0) k120 fu (j:Int) H) Q
 |_,0,_,_,hf,_,_=>by omega
 |0,fu+1,j,H,hf,hj,t=>by
  have c2:=y5 (kh.tch t hh (by simp)) (show ([.int .i64 (a:Int),.int .i64 (f:Int),.int .i64 (to:Int)]:List AV)[2]? =some (.int .i64 (to:Int)) from rfl);rw[zd3];unfold z79;refine Wp.obind c2 (Wp.obind (z4 _ _) ?_)
  ((with_reducible refine Wp.lett ?_))
  refine y6 (by rw[decide_eq_false_iff_not];omega) ?_;exact hk H t
 |k+1,fu+1,j,H,hf,hj,t=>by
  have el:(j:Int)+1=((j+1:Nat):Int):=by omega
  have kH:=kh.tch t hh (by simp);have c2:=y5 kH (show ([.int .i64 (a:Int),.int .i64 (f:Int),.int .i64 (to:Int)]:List AV)[2]? =some (.int .i64 (to:Int)) from rfl);have sl:z1ae s (j:Int) (to:Int)=some (z217 s j to):=z24c (l:=s) (by omega) hto
  have hsl:(z217 s j to).length <1000000000:=by
   unfold z217;rw[List.length_take,List.length_drop];omega
  obtain⟨h1,e1,t1⟩:=match_r (n:=n) (d:=d) (s:=z217 s j to) (hT.tch t (by simp)) hN hn hsl (kn.tch t hnb (by simp)) (Nat.lt_of_lt_of_le hnb t.1);have kH1:=kH.tch t1 (Nat.lt_of_lt_of_le hh t.1) (by simp);have c0:=y5 kH1 (show ([.int .i64 (a:Int),.int .i64 (f:Int),.int .i64 (to:Int)]:List AV)[0]? =some (.int .i64 (a:Int)) from rfl);have c1:=y5 kH1 (show ([.int .i64 (a:Int),.int .i64 (f:Int),.int .i64 (to:Int)]:List AV)[1]? =some (.int .i64 (f:Int)) from rfl);have fin:=z431 hT hN hn hs hto kh hh kn hnb hia m1 m2 hk k fu (j+1) h1 (by omega) (by omega) (t.trans t1);clear kH kH1 kh kn hT hk t t1;rw[zd3];unfold z79;refine Wp.obind c2 (Wp.obind (z4 _ _) ?_)
  ((with_reducible refine Wp.lett ?_))
  refine y7 (by rw[decide_eq_true_eq];omega) ?_;refine Wp.obind c2 (Wp.obind (z4 _ _) (Wp.obind sl (Wp.callN e1 (Wp.obind (z5 _) (Wp.obind c0 (Wp.obind (z4 _ _) ?_))))));clear e1 c2 sl hsl
  rcases Nat.lt_or_eq_of_le hia with hlt|heq
  ·rw [m1 hlt j (by omega)]
   repeat(first|(with_reducible refine y8 (fun _ _=>?_))|((with_reducible refine ye ?_ ?_ ?_);omega;omega)|(with_reducible first|refine Wp.lett ?_|(apply Wp.obind;first|exact c0|exact z4 _ _))|((with_reducible refine y7 ?_ ?_);((with_reducible first|apply decide_eq_true|apply z66);omega))|((with_reducible refine y6 ?_ ?_);first|(with_reducible rfl)|((with_reducible apply z83);omega))|(with_reducible refine yd (by assumption) ?_))
   rw[el];exact fin
  ·rcases Nat.lt_trichotomy j f with hjf | hjf | hjf
   ·have e0 : (!(false == ((j : Int) == (f : Int)))) = false := by
     have:((j:Int) == (f:Int))=false:=by simp;omega
     rw[this];rfl
    rw[(m2 heq).2 j hjf]
    repeat(first|(with_reducible refine y8 (fun _ _=>?_))|((with_reducible refine ye ?_ ?_ ?_);omega;omega)|(with_reducible first|refine Wp.lett ?_|(apply Wp.obind;first|exact c0|exact c1|exact z4 _ _))|((with_reducible refine y7 ?_ ?_);((with_reducible first|apply decide_eq_true|apply z66);omega))|((with_reducible refine y6 ?_ ?_);first|(with_reducible first|rfl|assumption)|((with_reducible apply decide_eq_false);omega))|(with_reducible refine yd (by assumption) ?_))
    rw[el];exact fin
   ·have e0 : (!(true == ((j : Int) == (f : Int)))) = false := by
     rw[hjf]
     simp
    have e1:=(m2 heq).1;rw[←hjf] at e1;rw[e1]
    repeat(first|(with_reducible refine y8 (fun _ _=>?_))|((with_reducible refine ye ?_ ?_ ?_);omega;omega)|(with_reducible first|refine Wp.lett ?_|(apply Wp.obind;first|exact c0|exact c1|exact z4 _ _))|((with_reducible refine y7 ?_ ?_);((with_reducible first|apply decide_eq_true|apply z66);omega))|((with_reducible refine y6 ?_ ?_);first|(with_reducible first|rfl|assumption)|((with_reducible apply decide_eq_false);omega))|(with_reducible refine yd (by assumption) ?_))
    rw[el];exact fin
   ·generalize zeb N (z217 s j to) = b
    repeat(first|(with_reducible refine y8 (fun _ _=>?_))|((with_reducible refine ye ?_ ?_ ?_);omega;omega)|(with_reducible first|refine Wp.lett ?_|(apply Wp.obind;first|exact c0|exact c1|exact z4 _ _))|((with_reducible refine y7 ?_ ?_);((with_reducible first|apply decide_eq_true|apply z66);omega))|((with_reducible refine y6 ?_ ?_);first|(with_reducible rfl)|((with_reducible apply decide_eq_false);omega))|(with_reducible refine yd (by assumption) ?_))
    rw[el];exact fin
theorem z432{k54:AHeap→R}{t0:AV}{hA:AHeap}{ps:List (Int×Bytes)}{ts:List Nd}(hT:HasTz hA)(hx:hA.ex=[])(hn:18446744073709551616<n)(hs:s.length≤200)(hto:to≤s.length)(kh:RowH hA h10.next z3c0 [.int .i64 (a:Int),.int .i64 (f:Int),.int .i64 (to:Int)])(hh:h10.next<hA.next)(kp:Slc hA.next hA 2 t0 (ps.map z419))(ka:ArmsOk n (d+3) ps ts)(hap:a<ps.length)(ha8:ps.length≤8)(hm:∀(i:Nat) (t:Nd),ts[i]? =some t→(i<a→∀j,j<to→zeb (za4 t) (z217 s j to)=false)∧(i=a→zeb (za4 t) (z217 s f to)=true∧∀j,j<f→zeb (za4 t) (z217 s j to)=false))(hk:∀H,Tch [] hA H→Wp (k54 H) Q):
  ∀(k fu i:Nat) (H:AHeap),k<fu→i+k=a+1→Tch [] hA H→Wp (z8d (world n (d+4)) n t0 s h10 k54 fu (i:Int) H) Q
 |_,0,_,_,hf,_,_=>by omega
 |0,fu+1,i,H,hf,hi,t=>by
  have c0:=y5 (kh.tch t hh (by simp)) (show ([.int .i64 (a:Int),.int .i64 (f:Int),.int .i64 (to:Int)]:List AV)[0]? =some (.int .i64 (a:Int)) from rfl);rw[zd4];unfold z7a;refine Wp.obind c0 (Wp.obind (z4 _ _) ?_)
  ((with_reducible refine Wp.lett ?_))
  refine y6 (by rw[decide_eq_false_iff_not];omega) ?_;exact hk H t
 |k+1,fu+1,i,H,hf,hi,t=>by
  have el:(i:Int)+1=((i+1:Nat):Int):=by omega
  have kH:=kh.tch t hh (by simp);have c0:=y5 kH (show ([.int .i64 (a:Int),.int .i64 (f:Int),.int .i64 (to:Int)]:List AV)[0]? =some (.int .i64 (a:Int)) from rfl);have hip:i<ps.length:=by omega
  obtain⟨b,hb,x1,y1⟩:=(kp.tch t (Nat.le_refl _) (by simp)).row (i:=i) (by rw[List.length_map];exact hip);rw[List.getElem_map] at y1;obtain⟨tr,htr,hok⟩:=arms_get ka (List.getElem?_eq_getElem hip);obtain⟨⟨nb,h1,e1,M1⟩,_⟩:=hok.2.2.2 H (by rw[t.2.1,hx]);have t1:=t.trans M1.tch;rw[zd4];unfold z7a;refine Wp.obind c0 (Wp.obind (z4 _ _) ?_)
  ((with_reducible refine Wp.lett ?_))
  refine y7 (by rw[decide_eq_true_eq];omega) ?_;refine Wp.obind x1 (Wp.obind y1 (Wp.callN e1 (Wp.obind (zf1 _ _) (Wp.obind (zf0 _ _ _) (Wp.obind (z4 _ _) ?_)))))
  ((with_reducible refine Wp.lett ?_))
  refine y6 rfl ?_;refine y1a fun k120 ek=>?_;refine z431 (n:=n) (d:=d) (hT.tch t1 (by simp)) (z41e tr) hn hs hto (kh.tch t1 hh (by simp)) (Nat.lt_of_lt_of_le hh t1.1) M1.at0.1 M1.at0.2.1 (by omega) (hm i tr htr).1 (hm i tr htr).2 (fun H' t'=>?_) to n 0 h1 (by omega) (Nat.zero_add _) (Tch.refl _ _);rw[ek]
  (((with_reducible refine ye ?_ ?_ ?_);omega;omega))
  rw[el];exact z432 hT hx hn hs hto kh hh kp ka hap ha8 hm hk k fu (i+1) H' (by omega) (by omega) (t1.trans t')
end
set_option maxRecDepth 100000 in
theorem z2ba(h:AHeap)(hX:h.ex=[])(hT:HasTz h)(xs:List AV)(hP:z407 Tryd.prog h.next h 12 [22,9,9] xs)(hS:∀s:Bytes,xs[1]? =some (strA s)→s.length≤1048576):∃h',Says Tryd.prog 7 xs h (.ret (.bool true)) h':=by
 obtain⟨x0,_,rfl,hp0,hP⟩:=z2d7 hP;obtain⟨_,_,rfl,hp1,hP⟩:=z2d7 hP;obtain⟨_,_,rfl,hp2,hP⟩:=z2d7 hP
 obtain rfl:=args0 hP
 obtain⟨ps,kp,hps⟩:=args_pats hp0;obtain⟨s,rfl,hss⟩:=hp1.str Tryd.underlying9;obtain⟨u,rfl,hsu⟩:=hp2.str Tryd.underlying9;have hsz:=hS s rfl;clear hS;obtain⟨n,hn⟩:∃n,18446744073709551620<n:=⟨_,Nat.lt_succ_self _⟩;obtain⟨D,hD⟩:∃D,2000≤D:=⟨2000,Nat.le_refl _⟩
 suffices hK:Wp (zf4 (world n (D+7)) n x0 s u h) fun r _=>r=.ret (.bool true) by
  obtain⟨_,h',e,rfl⟩:=hK;exact⟨h',z201 (world_ok n (D+7)) e⟩
 have ls:=z5b s;have lu:=z5b u;unfold zf4;refine Wp.callN (works_w (d:=D+6) hn (by omega) hT hX) (Wp.obind (z5 _) ?_)
 ((with_reducible refine Wp.lett ?_))
 refine y6 rfl ?_
 by_cases hM:∃ts,May n (D+4) ps ts
 ·obtain ⟨_, h1, h8, ka⟩ := hM
  obtain⟨ts,kU⟩:=armsU_of ⟨hn,by omega⟩ h hX ka;have hM:May n (D+4) ps ts:=⟨h1,h8,kU _ _ ⟨hn,by omega⟩⟩;have k6:=kU n (D+6) ⟨hn,by omega⟩;clear kU ka;have hts:=k6.len;obtain⟨h1,e1,t1⟩:=z160 (n:=n) (d:=D+1) (s:=s) hn hM hX hT kp (by omega);obtain⟨z,hz⟩:∃z,zef (ts.map fun t=>(za4 t,[])) s 0=z:=⟨_,rfl⟩;rw[hz] at e1;refine Wp.callN e1 (Wp.obind (zf1 _ _) (Wp.obind (z11 _) (Wp.obind (zf0 _ _ _) (Wp.obind (z5 _) ?_))));refine y9 (Mem.nil [] h1) fun h2 M2=>?_;rw[ze];refine y10 M2 (z1d3 _) rfl (z1d2 _) fun h3 M3=>?_;have t03:=t1.trans M3.tch;have kh:=M3.at0.1;have hh:=M3.at0.2.1;clear M2 M3 e1
  by_cases hl:200<s.length
  ·repeat (first | (with_reducible first | refine y8 (fun _ _ => ?_) | refine Wp.lett ?_) | ((with_reducible refine y7 ?_ ?_); first | (with_reducible rfl) | ((with_reducible apply decide_eq_true); omega)) | (with_reducible refine yd (by assumption) ?_))
   exact Wp.ret rfl
  by_cases hl2:200<u.length
  ·repeat (first | (with_reducible first | refine y8 (fun _ _ => ?_) | refine Wp.lett ?_) | ((with_reducible refine y7 ?_ ?_; apply decide_eq_true); omega) | ((with_reducible refine y6 ?_ ?_; apply decide_eq_false); omega) | (with_reducible refine yd (by assumption) ?_))
   exact Wp.ret rfl
  cases z with
  |none=>
   have l3:z16 h3 3 (.ptr h1.next 0)=some [.int .i64 0,.int .i64 0,.int .i64 0]:=y12 kh rfl;have e0:(!(none:Option (Nat×Nat×Nat)).isSome)=true:=rfl
   repeat(first|(with_reducible first|refine y8 (fun _ _=>?_)|refine Wp.lett ?_|(apply Wp.obind;first|exact l3|exact eqHitT _ _ _)|(refine y7 ?_ ?_;assumption))|((with_reducible refine y6 ?_ ?_;apply decide_eq_false);omega)|(with_reducible refine yd (by assumption) ?_))
   exact Wp.ret rfl
  |some z=>
   obtain⟨a,f,to⟩:=z;obtain⟨g1,g2,g3,g4,g5,g6,g7⟩:=z3ec hz;have kh:RowH h3 h1.next z3c0 [.int .i64 (a:Int),.int .i64 (f:Int),.int .i64 (to:Int)]:=kh;have c0:=y5 kh (show ([.int .i64 (a:Int),.int .i64 (f:Int),.int .i64 (to:Int)]:List AV)[0]? =some (.int .i64 (a:Int)) from rfl);have c1:=y5 kh (show ([.int .i64 (a:Int),.int .i64 (f:Int),.int .i64 (to:Int)]:List AV)[1]? =some (.int .i64 (f:Int)) from rfl);have c2:=y5 kh (show ([.int .i64 (a:Int),.int .i64 (f:Int),.int .i64 (to:Int)]:List AV)[2]? =some (.int .i64 (to:Int)) from rfl);have ll:=kp.len;rw[List.length_map] at ll;have e0:(!(some (a,f,to)).isSome)=false:=rfl
   repeat(first|(with_reducible first|(first|refine yf (fun _ _=>?_)|refine y8 (fun _ _=>?_))|refine Wp.lett ?_|(apply Wp.obind;first|exact c0|exact c1|exact c2|exact ll|exact z4 _ _))|((with_reducible refine y6 ?_ ?_);first|(with_reducible assumption)|((with_reducible apply decide_eq_false);omega))|(with_reducible refine yd (by assumption) ?_))
   rename_i k54 ek;refine z432 (n:=n) (d:=D+3) (hT.tch t03 (by simp)) (by rw[t03.2.1,hX]) (by omega) (by omega) g2 kh hh (y56 kp t03 (Nat.le_refl _)) k6 (by omega) h8 g5 (fun H tH=>?_) (a+1) n 0 h3 (by omega) (Nat.zero_add _) (Tch.refl _ _);rw[ek];clear ek k54 c0 c1 c2 g5;have kH:=kh.tch tH hh (by simp);have c2:=y5 kH (show ([.int .i64 (a:Int),.int .i64 (f:Int),.int .i64 (to:Int)]:List AV)[2]? =some (.int .i64 (to:Int)) from rfl);have tHH:=t03.trans tH
   have s1:z1ae s 0 ((to:Int) - 1)=some (s.take (to - 1)):=by
    have:=z24c (l:=s) (a:=0) (b:=to - 1) (Nat.zero_le _) (by omega);rw[List.drop_zero,Nat.sub_zero,show ((to - 1:Nat):Int)=(to:Int) - 1 by omega] at this;exact this
   have s2:z1ae s 0 (to:Int)=some (s.take to):=by
    have:=z24c (l:=s) (a:=0) (b:=to) (Nat.zero_le _) g2;rw[List.drop_zero,Nat.sub_zero] at this;exact this
   have hX3:H.ex=[]:=by rw[tHH.2.1,hX]
   repeat(first|((with_reducible refine ye ?_ ?_ ?_);omega;omega)|(with_reducible apply Wp.obind;first|exact c2|exact s1|exact z4 _ _))
   obtain⟨h5,e5,t5⟩:=z160 (n:=n) (d:=D+1) (s:=s.take (to - 1)) hn hM hX3 (hT.tch tHH (by simp)) (y56 kp tHH (Nat.le_refl _)) (by rw[List.length_take];omega);rw[g6] at e5;refine Wp.callN e5 (Wp.obind (zf1 _ _) (Wp.obind (z11 _) (Wp.obind (zf0 _ _ _) (Wp.obind (z5 _) ?_))));refine y9 (Mem.nil [] h5) fun h6 M6=>?_;rw[ze];refine y10 M6 (z1d3 _) rfl (z1d2 _) fun h7 M7=>?_;have tH7:=t5.trans M7.tch;have k7:=kH.tch tH7 (Nat.lt_of_lt_of_le hh tH.1) (by simp);have c7:=y5 k7 (show ([.int .i64 (a:Int),.int .i64 (f:Int),.int .i64 (to:Int)]:List AV)[2]? =some (.int .i64 (to:Int)) from rfl);have A1:addS (s.take to) u=some (s.take to++u):=addS_val (by rw[List.length_take];omega);have t7:=tHH.trans tH7;clear M6 M7 e5 t5
   repeat(((with_reducible apply Wp.obind);(with_reducible first|exact c7|exact s2|exact A1|exact z4 _ _)))
   obtain⟨h8',e8,t8⟩:=z160 (n:=n) (d:=D+1) (s:=s.take to++u) hn hM (by rw[t7.2.1,hX]) (hT.tch t7 (by simp)) (y56 kp t7 (Nat.le_refl _)) (by rw[List.length_append,List.length_take];omega);rw[g7] at e8;refine Wp.callN e8 (Wp.obind (zf1 _ _) (Wp.obind (z11 _) (Wp.obind (zf0 _ _ _) (Wp.obind (z5 _) ?_))));refine y9 (Mem.nil [] h8') fun h9 M9=>?_;rw[ze];refine y10 M9 (z1d3 _) rfl (z1d2 _) fun hZ MZ=>?_;have kZ:=k7.tch (t8.trans MZ.tch) (Nat.lt_of_lt_of_le hh (Nat.le_trans tH.1 tH7.1)) (by simp);have lz1:z16 hZ 3 (.ptr h1.next 0)=some [.int .i64 (a:Int),.int .i64 (f:Int),.int .i64 (to:Int)]:=y12 kZ rfl;have lz2:z16 hZ 3 (.ptr h8'.next 0)=some [.int .i64 (a:Int),.int .i64 (f:Int),.int .i64 (to:Int)]:=y12 MZ.at0.1 rfl;have e9:(!(none:Option (Nat×Nat×Nat)).isSome)=true:=rfl;have e10:(some (a,f,to)).isSome=true:=rfl
   repeat(with_reducible first|refine y8 (fun _ _=>?_)|refine Wp.lett ?_|(apply Wp.obind;first|exact lz1|exact lz2|exact eqHitT _ _ _)|(refine y7 ?_ ?_;assumption)|refine yd (by assumption) ?_)
   exact Wp.ret rfl
 ·obtain ⟨h1, e1, t1⟩ := first_bad (n := n) (d := D + 1) (s := s) hn (by omega) hM hX kp hps
  refine Wp.callN e1 (Wp.obind (zf1 _ _) (Wp.obind (z11 _) (Wp.obind (zf0 _ _ _) (Wp.obind (z5 _) ?_))));refine y9 (Mem.nil [] h1) fun h2 M2=>?_;rw[ze];refine y10 M2 (z1d3 _) rfl (z1d2 _) fun h3 M3=>?_;have l3:z16 h3 3 (.ptr h1.next 0)=some [.int .i64 0,.int .i64 0,.int .i64 0]:=y12 M3.at0.1 rfl
  by_cases hl:200<s.length
  ·repeat (first | (with_reducible first | refine y8 (fun _ _ => ?_) | refine Wp.lett ?_) | ((with_reducible refine y7 ?_ ?_); first | (with_reducible rfl) | ((with_reducible apply decide_eq_true); omega)) | (with_reducible refine yd (by assumption) ?_))
   exact Wp.ret rfl
  by_cases hl2:200<u.length
  ·repeat (first | (with_reducible first | refine y8 (fun _ _ => ?_) | refine Wp.lett ?_) | ((with_reducible refine y7 ?_ ?_; apply decide_eq_true); omega) | ((with_reducible refine y6 ?_ ?_; apply decide_eq_false); omega) | (with_reducible refine yd (by assumption) ?_))
   exact Wp.ret rfl
  repeat(first|(with_reducible first|refine y8 (fun _ _=>?_)|refine Wp.lett ?_|(apply Wp.obind;first|exact l3|exact eqHitT _ _ _)|(refine y7 ?_ ?_;exact Bool.not_false))|((with_reducible refine y6 ?_ ?_;apply decide_eq_false);omega)|(with_reducible refine yd (by assumption) ?_))
  exact Wp.ret rfl
end Go.Proofs.YtcahhjjnihipdaaDoor
