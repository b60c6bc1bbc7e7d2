/- What snapPlays_proved stands on, part 8 of 10. -/
import Derived.Test.YtpnccmlajhhpdaaSP7
namespace Go.Proofs.Ytpnccmlajhhpdaa
open Go.RowKit Abs
section
variable {h h':AHeap}{v:AV}{u:Bytes}{l:List Chg}
theorem BufAt.conv(k:BufAt h v u):z7b Try.prog h TBy 9 (some v)=some (.val (z5 u),h):=by
 rcases k with⟨rfl,rfl⟩|⟨c,rest,rfl,h2,h3⟩
 ·kernel_rfl
 ·refine z45b (by kernel_rfl) (by kernel_rfl) ?_
  have hcl:=z5b u;have:=h2.part (o:=0) (n:=(z32 u).length) (by rw[List.length_append];omega);rw[List.drop_zero,List.take_left' rfl,hcl] at this;exact this
theorem eqBy_sl(b m:Nat)(h:AHeap):z75 Try.prog h .eql TBy true (some (.sl b 0 m 1)) (some AV.nsl)=some (.val (.bool false),h):=by kernel_rfl
theorem eqBy_nil(h:AHeap):z75 Try.prog h .eql TBy true (some .nsl) (some AV.nsl)=some (.val (.bool true),h):=by kernel_rfl
theorem bldBy0(h:AHeap):z1df Try.prog h TBy 0 []=z83 h 5 [] 0 1:=by kernel_rfl
theorem Wp.mnews0{h:AHeap}{e sz:Nat}{k:AV→AHeap→R}{Q:ARes→AHeap→Prop}{o:z8a}(e1:o=z83 h e [] 0 sz)(hex:zbf e h.ex=false)(hk:Wp (k (.sl h.next 0 0 sz) (newH h e [])) Q):Wp (Abs.outK o k) Q:=by
 refine Wp.outK (v:=.sl h.next 0 0 sz) (h1:=newH h e []) ?_ hk;rw[e1];unfold z83;rw[if_pos ⟨rfl,hex⟩];rfl
theorem clone_ok{n d:Nat}(k:BufAt h v u)(hx:h.ex=[89])(hm:u.length≤1000000000):∃h' v',world n (d+1) 86 [v] h=some (.ret v',h')∧BufAt h' v' u∧Tch [] h h'∧∀b∈z60 v',h.next≤b:=by
 suffices hK:Wp (world n (d+1) 86 [v] h) fun r h'=>∃v',r=.ret v'∧BufAt h' v' u∧Tch [] h h'∧∀b∈z60 v',h.next≤b by
  obtain⟨_,h',e,v',rfl,k⟩:=hK;exact⟨h',v',e,k⟩
 rw[z153];unfold z3a;have he:Abs.elemOf Try.prog TBy=some 5:=by kernel_rfl
 have hu:z106 Try.prog TBy=true:=by kernel_rfl
 have hsz:Try.prog.cellsOf 5=1:=by kernel_rfl
 rcases k with⟨rfl,rfl⟩|⟨c,rest,rfl,h2,h3⟩
 ·exact Wp.outK (eqBy_nil h) (Wp.obind (z11 _) (y9 rfl (Wp.ret ⟨_,rfl,.inl ⟨rfl,rfl⟩,Tch.refl _ _,fun _ h=>nomatch h⟩)))
 ·refine Wp.outK (eqBy_sl c u.length h) (Wp.obind (z11 _) (y8 rfl (Wp.mnews0 (bldBy0 h) (by rw [hx]; rfl) ?_)))
  have hex:zbf 5 (newH h 5 []).ex=false:=by rw[ex_newH,hx];rfl
  have kn:=RowH.new h 5 [];have hcl:=z5b u;have k2:RowH (newH h 5 []) c 5 (z32 u++rest):=h2.tch (Tch.newH [] h _ _) h3 (fun h=>nomatch h);have hfit:=z31 (P:=Try.prog) (e:=5) (B:=1) (k:=0+u.length) fitBy (by omega) (by omega)
  have hpart:z44 (newH h 5 []) c 0 (z32 u).length=some (z32 u):=by
   have:=k2.part (o:=0) (n:=(z32 u).length) (by rw[List.length_append];omega);rw[List.drop_zero,List.take_left' rfl] at this;exact this
  have hfirst:∀m,m=u.length→z10d (newH h 5 []) 1 m (.sl c 0 u.length 1)=some (z32 u):=by
   intro m hm;rw[z143 (by omega),hm,Nat.mul_one, ←hcl];exact hpart
  by_cases h0:u=[]
  ·subst h0
   exact Wp.outK (z2d8 (b:=h.next) (o:=0) (m:=0) (n:=0) he hu hsz rfl rfl (hfirst 0 rfl) hfit hex) (Wp.ret ⟨_,rfl,.inr ⟨h.next,[],rfl,kn,Nat.lt_succ_self _⟩,Tch.newH _ _ _ _,fun b hb=>by rw[List.mem_singleton.1 hb];exact Nat.le_refl _⟩)
  ·obtain ⟨m, hm2⟩ : ∃ m, u.length = m + 1 := by
    cases u with
    |nil=>exact absurd rfl h0
    |cons a l=>exact⟨l.length,rfl⟩
   have hlen:z205 (.sl c 0 u.length 1)=some (m+1):=by rw[hm2];rfl
   have a1:=zc4 (P:=Try.prog) (h:=newH h 5 []) (t:=TBy) (u:=TBy) (b:=h.next) (o:=0) (m:=0) (n:=m) (x:=.sl c 0 u.length 1) (cs:=[]) he hu hsz hlen (hfirst _ hm2.symm) (by rw[←hm2];exact hfit) (z126 u) hex (by
    have:=kn.part (o:=0) (n:=0) (Nat.le_refl _);exact this) kn.type
   refine Wp.outK a1 (Wp.ret ⟨_,rfl,.inr ⟨h.next+1,[],by rw[hm2,Nat.zero_add];rfl,?_,Nat.lt_succ_self _⟩,((Tch.newH [] h _ _).trans' (Tch.put (S:=[h.next]) (.inl (List.mem_singleton.2 rfl)) .dead) fun b hb=>.inr (by rw[List.mem_singleton.1 hb];exact Nat.le_refl _)).trans (Tch.newH _ _ _ _),fun b hb=>?_⟩)
   ·rw [List.append_nil]
    exact RowH.new ((newH h 5 []).put h.next .dead) _ _
   ·have hb2 : b = h.next + 1 := List.mem_singleton.1 hb
    omega
theorem z417{n d b T o:Nat}{D:List AV}{th:Bool}(kr:RowH h b T D)(hb:b<h.next)(h0:D[o]? =some (.bool th))(h1:D[o+1]? =some v)(k:BufAt h v u)(hx:h.ex=[89])(hm:u.length≤1000000000):∃h' v',world n (d+2) 73 [.ptr b o] h=some (.ret (.agg [.bool th,v']),h')∧BufAt h' v' u∧Tch [] h h'∧∀b∈z60 v',h.next≤b:=by
 suffices hK:Wp (world n (d+2) 73 [.ptr b o] h) fun r h'=>∃v',r=.ret (.agg [.bool th,v'])∧BufAt h' v' u∧Tch [] h h'∧∀b∈z60 v',h.next≤b by
  obtain⟨_,h',e,v',rfl,k⟩:=hK;exact⟨h',v',e,k⟩
 rw[z1ee];unfold z6a;refine y12 (Mem.nil [] h) fun h2 M2=>?_;have t2:=M2.tch;have hn2:=t2.1;have kr2:=kr.tch t2 hb (fun h=>nomatch h);have k2:=k.tch t2 (fun _ _ h=>nomatch h);refine Wp.obind (zf _ _) (Wp.obind (z8 _ _ _) (Wp.obind (RowH.cell' kr2 h0) (Wp.obind (z11 _) (Wp.obind (zf _ _) (Wp.obind (z8 _ _ _) (Wp.obind (RowH.cell' kr2 h1) ?_))))));obtain⟨h3,v',e3,k3,t3,s3⟩:=clone_ok (n:=n) (d:=d) k2 (by rw[t2.2.1,hx]) hm;have hn3:=t3.1;refine Wp.callN e3 ?_;have kr3:=kr2.tch t3 (Nat.lt_of_lt_of_le hb hn2) (fun h=>nomatch h);refine Wp.chk (z186 rfl (z186 (ze4 (by kernel_rfl) (RowH.cell' kr3 h0)) rfl)) ?_
 have hbld:z45d Try.prog 100 [(0,.bool th),(1,v')]=some [.bool th,v']:=by
  rcases k3 with⟨rfl,rfl⟩|⟨c,rest,rfl,_⟩<;>kernel_rfl
 refine Wp.obind hbld ?_;have hh2:=M2.at0.2.1;have kb3:=M2.at0.1.tch t3 hh2 (fun h=>nomatch h);rw[z23];refine Wp.stAll kb3 rfl rfl (by rw[show [AV.bool th,v'].all AV.one=(true&&(v'.one&&true)) from rfl,k3.one.1];rfl) fun h4 k4 t4 n4=>Wp.obind (RowH.ldAll k4 rfl) (Wp.ret ⟨v',rfl,k3.tch t4 (fun b hb hm=>?_),(t2.trans t3).trans' t4 (fun b hb=>.inr (by rw[List.mem_singleton.1 hb];exact Nat.le_refl _)),fun b hb=>Nat.le_trans hn2 (s3 b hb)⟩);have h1:=s3 b hb;have h2:=List.mem_singleton.1 hm;omega
end
section
variable {lo:Nat→Prop}{n d db:Nat}{h:AHeap}{B:Nat}{s:DS}
def readE(s:DS)(z:Int):Int:=if z1a3 s.p z=0 then (if (s.fs z.toNat).seen.th=true then 0 else 4) else z1a3 s.p z
def readS(s:DS)(z:Int):Bytes:=if z1a3 s.p z=0 then (if (s.fs z.toNat).seen.th=true then (s.fs z.toNat).seen.u else []) else []
theorem read_a{z:Int}(K:At lo h db s B):world n (d+3) 60 [.ptr db 0,.int .i64 z] h=some (.ret (.tup [z5 (readS s z),.int .i64 (readE s z)]),h):=by
 apply Wp.eq;obtain⟨D,vs,K⟩:=K;rw[z27e];unfold zae;refine Wp.callN (z215 K z) (Wp.obind (z7 _ _) (Wp.lett ?_));unfold readE readS
 by_cases h0:z1a3 s.p z=0
 ·obtain ⟨hp, f, rfl, hf⟩ := z3a7 h0
  have C:=K.cells f hf;have Mf:=K.mem f hf;refine y8 (z185 h0) ?_;rw[if_pos h0,if_pos h0,Int.toNat_natCast];refine Wp.obind (zf _ _) (Wp.obind (z8 _ _ _) (Wp.obind (idxF hf) (Wp.obind (z8 _ _ _) (Wp.obind (zf _ _) (Wp.obind (z8 _ _ _) (Wp.obind (RowH.cell' K.row C.c2) (Wp.obind (z11 _) (Wp.lett ?_))))))));cases hth:(s.fs f).seen.th with
  |false=>
   exact y9 rfl (Wp.ret ⟨rfl,rfl⟩)
  |true=>
   refine y8 rfl (Wp.obind (zf _ _) (Wp.obind (z8 _ _ _) ?_));have go:∀k:AV→R,(Wp (k (vs f 1)) fun r' h'=>r'=ARes.ret (AV.tup [z5 (if true=true then (s.fs f).seen.u else []),AV.int IntKind.i64 (if true=true then 0 else 4)])∧h'=h)→Wp (Abs.obind (zc h (.ptr db (5*f+2+1))) k) fun r' h'=>r'=ARes.ret (AV.tup [z5 (if true=true then (s.fs f).seen.u else []),AV.int IntKind.i64 (if true=true then 0 else 4)])∧h'=h:=fun k hk=>Wp.obind (RowH.cell' K.row C.c3) hk;exact go _ (Wp.outK Mf.seen.conv (Wp.obind (ze _) (Wp.ret ⟨rfl,rfl⟩)))
 ·refine y9 (z1af h0) ?_
  rw[if_neg h0,if_neg h0];exact Wp.ret ⟨rfl,rfl⟩
def isF(z:Int):Prop:=0≤z∧z<32
instance (z:Int):Decidable (isF z):=inferInstanceAs (Decidable (0≤z∧z<32))
theorem loose_a{z:Int}(K:At lo h db s B):world n (d+2) 30 [.ptr db 0,.int .i64 z] h=some (.ret (.int .i64 (if isF z then ((s.fs z.toNat).loose.length:Int) else 0)),h):=by
 apply Wp.eq;obtain⟨D,vs,K⟩:=K;rw[z240];unfold z9b;refine Wp.outK (z26d db 0 h) (Wp.obind (z11 _) (y7 fun j ej=>y8 rfl (Wp.callN (z35b z) (Wp.obind (z11 _) (Wp.lett ?_)))))
 by_cases h0:0≤z∧z<32
 ·rw [decide_eq_true h0, if_pos (show isF z from h0), ej]
  obtain⟨f,rfl⟩:∃f:Nat,z=(f:Int):=⟨z.toNat,by omega⟩;have hf:f<32:=by omega
  have C:=K.cells f hf;have Mf:=K.mem f hf;have hlen:z12d (vs f 2)=some ((s.fs f).loose.length:Int):=(Mf.loose.rd (S:=[]) (fun _ _ h=>nomatch h)).1;rw[Int.toNat_natCast];exact y8 rfl (Wp.obind (zf _ _) (Wp.obind (z8 _ _ _) (Wp.obind (idxF hf) (Wp.obind (z8 _ _ _) (Wp.obind (RowH.cell' K.row C.c4) (Wp.obind hlen (Wp.ret ⟨rfl,rfl⟩)))))))
 ·rw [decide_eq_false h0, if_neg (show ¬ isF z from h0), ej]
  exact y9 rfl (Wp.ret ⟨rfl,rfl⟩)
theorem sure_a{z:Int}(K:At lo h db s B):world n (d+2) 28 [.ptr db 0,.int .i64 z] h=some (.ret (.tup [z5 (if isF z then (s.fs z.toNat).sure.u else []),.bool (if isF z then (s.fs z.toNat).sure.th else false)]),h):=by
 apply Wp.eq;obtain⟨D,vs,K⟩:=K;rw[z27d];unfold zad;refine Wp.outK (z26d db 0 h) (Wp.obind (z11 _) (y7 fun j ej=>y8 rfl (Wp.callN (z35b z) (Wp.obind (z11 _) (Wp.lett ?_)))))
 by_cases h0:0≤z∧z<32
 ·rw [decide_eq_true h0, if_pos (show isF z from h0), if_pos (show isF z from h0), ej]
  obtain⟨f,rfl⟩:∃f:Nat,z=(f:Int):=⟨z.toNat,by omega⟩;have hf:f<32:=by omega
  have C:=K.cells f hf;have Mf:=K.mem f hf;rw[Int.toNat_natCast];exact y8 rfl (Wp.obind (zf _ _) (Wp.obind (z8 _ _ _) (Wp.obind (idxF hf) (Wp.obind (z8 _ _ _) (Wp.obind (zf _ _) (Wp.obind (z8 _ _ _) (Wp.obind (RowH.cell' K.row C.c1) (Wp.obind (zf _ _) (Wp.obind (z8 _ _ _) (Wp.obind (RowH.cell' K.row C.c0) (Wp.obind (z11 _) (Wp.outK Mf.sure.conv (Wp.obind (ze _) (Wp.chk (z186 (ze4 (by kernel_rfl) (RowH.cell' K.row C.c0)) rfl) (Wp.ret ⟨rfl,rfl⟩)))))))))))))))
 ·rw [decide_eq_false h0, if_neg (show ¬ isF z from h0), if_neg (show ¬ isF z from h0), ej]
  exact y9 rfl (Wp.ret ⟨rfl,rfl⟩)
end
theorem z32d:∀(l:List Chg) (x:Cont) (k:Nat),z2fb x l→z2fb x (l.take k)
 |_,_,0,_=>trivial
 |[],_,_+1,_=>trivial
 |_::l,_,k+1,h=>⟨h.1,z32d l _ k h.2⟩
theorem z299:∀(l:List Chg) (k:Nat),z29a (l.take k)≤z29a l
 |_,0=>Nat.zero_le _
 |[],_+1=>Nat.le_refl _
 |c::l,k+1=>by
  have:=z299 l k;show c.s.length+z29a (l.take k)≤c.s.length+z29a l;omega
theorem z1f1:∀(l:List Chg) (k:Nat) (hk:k<l.length),z29a (l.take k)+l[k].s.length≤z29a l
 |[],_,h=>absurd h (Nat.not_lt_zero _)
 |c::l,0,_=>by
  show 0+c.s.length≤c.s.length+z29a l;omega
 |c::l,k+1,h=>by
  have:=z1f1 l k (Nat.lt_of_succ_lt_succ h);show c.s.length+z29a (l.take k)+(l[k]'(Nat.lt_of_succ_lt_succ h)).s.length≤c.s.length+z29a l;omega
def z1fd(x:FileS)(kept:Int):Nat:=min kept.toNat x.loose.length
def z1d7(c:Chg)(torn:Int):Chg:=⟨0,c.s.take (min torn ((c.s.length:Int) - 1)).toNat,c.n⟩
def z338(c:Chg)(torn:Int):Prop:=0<torn∧c.k=0∧c.s≠[]
instance (c:Chg)(torn:Int):Decidable (z338 c torn):=inferInstanceAs (Decidable (0<torn∧c.k=0∧c.s≠[]))
def za6(x:FileS)(kept torn:Int):Cont:=
 match x.loose[z1fd x kept]? with
 |some c=>if z338 c torn then do1 (doL x.sure (x.loose.take (z1fd x kept))) (z1d7 c torn) else doL x.sure (x.loose.take (z1fd x kept))
 |none=>doL x.sure (x.loose.take (z1fd x kept))
def zdf(x:FileS)(kept torn:Int):FileS:=⟨za6 x kept torn,za6 x kept torn,[]⟩
theorem z326{x:FileS}{B:Nat}(kept torn:Int)(k:FileOk x B):(za6 x kept torn).u.length≤B:=by
 obtain⟨k1,k2,k3,k4⟩:=k;have h1:=z13b (x.loose.take (z1fd x kept)) x.sure;have h2:=z299 x.loose (z1fd x kept);unfold za6
 split
 ·rename_i c hc
  obtain⟨hk,rfl⟩:=List.getElem?_eq_some_iff.1 hc;have h3:=z1f1 x.loose _ hk
  split
  ·have h4 := z414 (doL x.sure (x.loose.take (z1fd x kept))) (z1d7 x.loose[z1fd x kept] torn)
   have h5:(z1d7 x.loose[z1fd x kept] torn).s.length≤x.loose[z1fd x kept].s.length:=by
    show (x.loose[z1fd x kept].s.take _).length≤_;rw[List.length_take];exact Nat.min_le_right _ _
   omega
  ·omega
 ·omega
theorem z3d2{x:FileS}{B:Nat}(kept torn:Int)(k:FileOk x B):FileOk (zdf x kept torn) B:=
 ⟨rfl,trivial,z326 kept torn k,Nat.zero_le _⟩
section
variable {h H H':AHeap}{db T o:Nat}{D:List AV}{v v1 v2:AV}{x y:Cont}{l:List Chg}
theorem DoAt.trans(K:DoAt h H db T o D v v1 x)(K2:DoAt H H' db T o ((D.set o (.bool x.th)).set (o+1) v1) v1 v2 y):DoAt h H' db T o D v v2 y:=by
 have hn:=K.tch.1;refine⟨?_,K2.buf,K2.ndb,fun b hb=>?_,K.tch.trans' K2.tch fun b hb=>?_,K2.ex⟩
 ·have := K2.row
  rw[set4] at this;exact this
 ·rcases K2.sub b hb with hb | hb
  ·exact K.sub b hb
  ·omega
 ·rcases List.mem_cons.1 hb with rfl | hb
  ·exact .inl List.mem_cons_self
  ·exact(K.sub b hb).imp (List.mem_cons_of_mem _) id
theorem sl3_to(h:AHeap){c m k:Nat}(hk:k≤m):z90 Try.prog h z263 (.sl c 0 m 3) none (some (.int .i64 (k:Int)))=some (.val (.sl c 0 k 3),h):=
 z33e (P:=Try.prog) (e:=TChg) (k1:=.i64) (by kernel_rfl) (by kernel_rfl) (by kernel_rfl) hk
theorem LooseAt.take{S:List Nat}(k:LooseAt h v l)(hS:∀b∈z60 v,b ∉ S){j:Nat}(hj:j≤l.length):∃v',z90 Try.prog h z263 v none (some (.int .i64 (j:Int)))=some (.val v',h)∧RdL h S v' (l.take j):=by
 rcases k with⟨rfl,rfl⟩|⟨c,rfl,h2,h3⟩
 ·have hj0 : j = 0 := Nat.le_zero.1 hj
  subst hj0;exact⟨.nsl,by kernel_rfl,rfl,fun _ _ i hi=>absurd hi (Nat.not_lt_zero _)⟩
 ·have hl : (l.take j).length = j := by rw [List.length_take]; omega
  refine⟨.sl c 0 j 3,sl3_to h hj,by rw[hl];rfl,fun H t i hi=>⟨_,idx3 (by omega),?_⟩⟩;have k2:=h2.tch t h3 (hS c (List.mem_singleton.2 rfl));have:=chgs_ld (l:=l) (rest:=[]) (i:=i) (by rw[List.append_nil];exact k2) (by omega);rw[this,List.getElem_take]
end
section
variable {lo:Nat→Prop}{n d db:Nat}{h:AHeap}{D:List AV}{fs:Nat→FileS}{vs:Nat→Nat→AV}{p:Int}{ops B f:Nat}{s:DS}
theorem crash_do(hn:1000000<n)(K:DiskAt lo h db D fs vs p ops B)(hf:f<32)(hb:B<900000){kept torn:Int}(ht:torn<9223372036854775808){Q:ARes→AHeap→Prop}{call2:AHeap→R}(hk:∀H v,DoAt h H db z2dc (5*f+0) D (vs f 0) v (za6 (fs f) kept torn)→Wp (call2 H) Q):
  Wp (
 lett (if 0>kept then 0 else kept) fun (t8:Int)=>
 Abs.obind (z53 (.ptr db (5*f))) fun t10=>
 Abs.obind (z27 4 t10) fun t11=>
 Abs.obind (zc h t11) fun v12=>
 Abs.obind (z12d v12) fun t13=>
 lett (if t13<t8 then t13 else t8) fun (t14:Int)=>
 Abs.obind (z53 (.ptr db (5*f))) fun t16=>
 Abs.obind (z27 0 t16) fun t17=>
 Abs.obind (z53 (.ptr db (5*f))) fun t19=>
 Abs.obind (z27 4 t19) fun t20=>
 Abs.obind (zc h t20) fun v21=>
 Abs.outK (z90 Try.prog h z263 v21 none (some (.int .i64 t14))) fun v23 h_14=>
 Abs.callN (world n (d+2) 72 [t17,v23] h_14) fun _ h_16=>
 Abs.obind (z53 (.ptr db (5*f))) fun t27=>
 Abs.obind (z27 4 t27) fun t28=>
 Abs.obind (zc h_16 t28) fun v29=>
 Abs.obind (z12d v29) fun t30=>
 lett (decide (t14<t30)) fun (t31:Bool)=>
 lett (fun (t35:Bool) (h_25:AHeap)=>
  lett call2 fun k28=>
  ifB t35
  (
   Abs.obind (z53 (.ptr db (5*f))) fun t37=>
   Abs.obind (z27 4 t37) fun t38=>
   Abs.obind (zc h_25 t38) fun v39=>
   Abs.obind (z150 3 v39 t14) fun t41=>
   Abs.obind (z2c h_25 3 t41) fun t42=>
   lett (newH h_25 TChg [.int .i64 0,.str 0 0,.int .i64 0]) fun h_50=>
   Abs.obind (z22 h_50 3 t42 (z13 h_25)) fun h_52=>
   Abs.obind (zc h_52 (AV.ptr (AHeap.next h_25) 0)) fun v44=>
   Abs.obind (z17 .i64 v44) fun t44=>
   lett ((t44:Int) == 0) fun (t45:Bool)=>
   lett (fun (t50:Bool) (h_58:AHeap)=>
    lett (fun (h_62:AHeap)=>
     k28 h_62) fun k61=>
    ifB t50
    (
     Abs.obind (zc h_58 (AV.ptr (AHeap.next h_25) 1)) fun v52=>
     Abs.obind (z20 v52) fun t52=>
     Abs.obind (zc h_58 (AV.ptr (AHeap.next h_25) 1)) fun v55=>
     Abs.obind (z20 v55) fun t55=>
     lett (IntKind.i64.wrap ((z3b t55) - 1)) fun (t57:Int)=>
     lett (if t57<torn then t57 else torn) fun (t58:Int)=>
     Abs.obind (z43 t52 0 t58) fun t59=>
     Abs.obind (z22 h_58 1 [z5 t59] (AV.ptr (AHeap.next h_25) 1)) fun h_71=>
     Abs.obind (z53 (.ptr db (5*f))) fun t62=>
     Abs.obind (z27 0 t62) fun t63=>
     Abs.obind (z2c h_71 3 (z13 h_25)) fun t64=>
     Abs.outK (z1df Try.prog h_71 z263 1 [(0,.agg t64)]) fun v65 h_76=>
     Abs.callN (world n (d+2) 72 [t63,v65] h_76) fun _ h_78=>
     k61 h_78)
    (
     k61 h_58)) fun j50=>
   ifB t45
   (
    Abs.obind (zc h_52 (AV.ptr (AHeap.next h_25) 1)) fun v48=>
    Abs.obind (z20 v48) fun t48=>
    lett (!eqS t48 ([]:Bytes)) fun (t49:Bool)=>
    j50 t49 h_52)
   (
    j50 false h_52))
  (
   k28 h_25)) fun j35=>
 ifB t31
 (
  lett (decide (torn>0)) fun (t34:Bool)=>
  j35 t34 h_16)
 (
  j35 false h_16)) Q:=by
 have C:=K.cells f hf;have Mf:=K.mem f hf;obtain⟨o1,o2,o3,o4⟩:=K.ok f hf;have hlen:=K.len;have hdb:=K.hdb
 have dis:∀b∈z60 (vs f 2),b ∉ db::z60 (vs f 0):=fun b hb hm=>by
  rcases List.mem_cons.1 hm with rfl|hm
  ·exact K.nd hf (by decide) hb
  ·exact K.ne hf (by decide) hf (by decide) (fun h=>absurd h.2 (by decide)) b hb hm
 have hL:=(Mf.loose.rd dis).1;obtain⟨k,hkk⟩:∃k,k=z1fd (fs f) kept:=⟨_,rfl⟩
 have hk14:(if ((fs f).loose.length:Int)<(if 0>kept then 0 else kept) then ((fs f).loose.length:Int) else (if 0>kept then 0 else kept))=(k:Int):=by
  rw[hkk];unfold z1fd
  split<;>split at * <;>omega
 have hkl:k≤(fs f).loose.length:=by
  rw[hkk];exact Nat.min_le_right _ _
 refine Wp.lett (Wp.obind (zf _ _) (Wp.obind (z8 _ _ _) (Wp.obind (RowH.cell' K.row C.c4) (Wp.obind hL ?_))));rw[hk14];refine Wp.lett (Wp.obind (zf _ _) (Wp.obind (z8 _ _ _) (Wp.obind (zf _ _) (Wp.obind (z8 _ _ _) (Wp.obind (RowH.cell' K.row C.c4) ?_)))));obtain⟨v',e1,rd1⟩:=Mf.loose.take dis hkl;refine Wp.outK e1 ?_;have hst:=z299 (fs f).loose k;obtain⟨h4,v4,e4,K4⟩:=do_ok (n:=n) (d:=d+1) (T:=z2dc) (o:=5*f+0) (x:=(fs f).sure) hn hdb K.row C.c0 C.c1 Mf.sure (K.nd hf (by decide)) K.ex rd1 (by rw[List.length_take];omega) (z32d _ _ k o2) (by omega);refine Wp.callN e4 ?_;have hdb4:db<h4.next:=Nat.lt_of_lt_of_le hdb K4.tch.1
 have g4:((D.set (5*f+0) (.bool (doL (fs f).sure ((fs f).loose.take k)).th)).set (5*f+0+1) v4)[5*f+4]? =some (vs f 2):=by
  rw[List.getElem?_set_ne (by omega),List.getElem?_set_ne (by omega)];exact C.c4
 refine Wp.obind (zf _ _) (Wp.obind (z8 _ _ _) (Wp.obind (RowH.cell' K4.row g4) (Wp.obind hL (Wp.lett (y7 fun j35 e35=>?_)))))
 have hcc:za6 (fs f) kept torn=match (fs f).loose[k]? with
   |some c=>if z338 c torn then do1 (doL (fs f).sure ((fs f).loose.take k)) (z1d7 c torn) else doL (fs f).sure ((fs f).loose.take k)
   |none=>doL (fs f).sure ((fs f).loose.take k):=by
  rw[hkk];rfl
 by_cases h1:k<(fs f).loose.length
 ·refine y9 (by rw [decide_eq_true_eq]; omega) (Wp.lett ?_)
  rw[List.getElem?_eq_getElem h1] at hcc;obtain⟨c,hc⟩:∃c,c=(fs f).loose[k]:=⟨_,rfl⟩;rw[←hc] at hcc;have hcc:za6 (fs f) kept torn=if z338 c torn then do1 (doL (fs f).sure ((fs f).loose.take k)) (z1d7 c torn) else doL (fs f).sure ((fs f).loose.take k):=hcc
  by_cases h2:0<torn
  ·rw [decide_eq_true (show torn > 0 from h2), e35]
   refine y7 fun k28 e28=>y9 rfl ?_;obtain⟨pp,i5,r5⟩:=(Mf.loose.rd dis).2 h4 K4.tch k h1;rw[←hc] at r5;refine Wp.obind (zf _ _) (Wp.obind (z8 _ _ _) (Wp.obind (RowH.cell' K4.row g4) (Wp.obind i5 (Wp.obind r5 (y12 (Mem.nil [] h4) fun h5 M5=>?_)))));rw[z23];refine y18 M5 rfl rfl rfl fun h6 M6=>?_;have t6:=M6.tch;have hn6:=t6.1;refine y16 M6 (show (z37a c)[0]? =some (.int .i64 (c.k:Int)) from rfl) (Wp.obind (z7 _ _) (Wp.lett (y7 fun j50 e50=>?_)));have K6:DoAt h h6 db z2dc (5*f+0) D (vs f 0) v4 (doL (fs f).sure ((fs f).loose.take k)):=⟨K4.row.tch t6 hdb4 (fun h=>nomatch h),K4.buf.tch t6 (fun _ _ h=>nomatch h),K4.ndb,K4.sub,K4.tch.trans' t6 (fun b hb=>nomatch hb),by rw[t6.2.1,K4.ex]⟩
   have no:¬z338 c torn→Wp (j50 false h6) Q:=by
    intro hno;rw[if_neg hno] at hcc;rw[e50];refine y7 fun k61 e61=>y8 rfl ?_;rw[e61,e28];exact hk h6 v4 (by rw[hcc];exact K6)
   by_cases h3:c.k=0
   ·refine y9 (z127 (by omega)) (y16 M6 (show (z37a c)[1]? = some (z5 c.s) from rfl) (Wp.obind (ze _) (Wp.lett ?_)))
    by_cases h4s:c.s=[]
    ·rw [ze5.2 h4s]
     exact no (fun h=>h.2.2 h4s)
    ·rw [z3cd.2 h4s, e50]
     have hy:z338 c torn:=⟨h2,h3,h4s⟩;rw[if_pos hy] at hcc;have hsl:0<c.s.length:=List.length_pos_iff.2 h4s
     have hcs:c.s.length≤B:=by
      have:=z1f1 (fs f).loose k h1;rw[←hc] at this;omega
     have hll:=z2d c.s;refine y7 fun k61 e61=>y9 rfl (y16 M6 (show (z37a c)[1]? =some (z5 c.s) from rfl) (Wp.obind (ze _) (y16 M6 (show (z37a c)[1]? =some (z5 c.s) from rfl) (Wp.obind (ze _) (yd (by omega) (by omega) ?_)))))
     have hmin:(if z3b c.s - 1<torn then z3b c.s - 1 else torn)=min torn ((c.s.length:Int) - 1):=by
      split<;>omega
     rw[hmin];have hs0:=z28 (l:=c.s) (a:=0) (b:=min torn ((c.s.length:Int) - 1)) (by omega) (by omega) (by omega)
     have hs1:(c.s.drop (0:Int).toNat).take ((min torn ((c.s.length:Int) - 1)).toNat - (0:Int).toNat)=(z1d7 c torn).s:=by
      rw[show (0:Int).toNat=0 from rfl,List.drop_zero,Nat.sub_zero];rfl
     rw[hs1] at hs0;refine Wp.lett (Wp.obind hs0 (Wp.ms0 M6 (by show 1<3;decide) rfl fun h7 M7=>Wp.obind (zf _ _) (Wp.obind (z8 _ _ _) (y1e M7 rfl ?_))))
     have hset:(z37a c).set 1 (z5 (z1d7 c torn).s)=z37a (z1d7 c torn):=by
      show [AV.int .i64 (c.k:Int),z5 (z1d7 c torn).s,.int .i64 c.n]=[AV.int .i64 ((0:Nat):Int),z5 (z1d7 c torn).s,.int .i64 c.n];rw[h3]
     rw[hset] at M7 ⊢;have hx7:h7.ex=[89]:=by rw[M7.tch.2.1,K4.ex]
     refine y30 M7 (z371 _ _ _ _) rfl (by rw[K4.ex];rfl) fun h8 M8=>?_;have t7:=M7.tch;have t8:=M8.tch;have K8:DoAt h h8 db z2dc (5*f+0) D (vs f 0) v4 (doL (fs f).sure ((fs f).loose.take k)):=⟨K4.row.tch t8 hdb4 (fun h=>nomatch h),K4.buf.tch t8 (fun _ _ h=>nomatch h),K4.ndb,K4.sub,K4.tch.trans' t8 (fun b hb=>nomatch hb),by rw[t8.2.1,K4.ex]⟩;have hn7:=t7.1;have hh8:=M8.at0.2.1
     have rd:RdL h8 (db::z60 v4) (.sl h7.next 0 1 3) [z1d7 c torn]:=by
      refine⟨rfl,fun HH t i hi=>?_⟩
      have hi0:i=0:=by
       have:i<1:=hi;omega
      subst hi0;refine⟨_,idx3 (by decide),(RowH.ldAll (M8.at0.1.tch t hh8 fun hm=>?_) rfl)⟩
      rcases List.mem_cons.1 hm with hm|hm
      ·omega
      ·have := K4.buf.lt _ hm
       omega
     have gl:5*f+0+1<((D.set (5*f+0) (.bool (doL (fs f).sure ((fs f).loose.take k)).th)).set (5*f+0+1) v4).length:=by
      rw[List.length_set,List.length_set];omega
     have hdl:=z13b ((fs f).loose.take k) (fs f).sure;have hat:=z1f1 (fs f).loose k h1;rw[←hc] at hat
     have htl:(z1d7 c torn).s.length≤c.s.length:=by
      show (c.s.take _).length≤_;rw[List.length_take];exact Nat.min_le_right _ _
     obtain⟨h9,v9,e9,K9⟩:=do_ok (n:=n) (d:=d+1) (T:=z2dc) (o:=5*f+0) (D:=((D.set (5*f+0) (.bool (doL (fs f).sure ((fs f).loose.take k)).th)).set (5*f+0+1) v4)) (x:=doL (fs f).sure ((fs f).loose.take k)) hn (Nat.lt_of_lt_of_le hdb4 t8.1) K8.row (by rw[List.getElem?_set_ne (by omega),List.getElem?_set_self (by omega)]) (by rw[List.getElem?_set_self (by rw[List.length_set];omega)]) K8.buf K8.ndb K8.ex rd (by show 1<1000000;decide) ⟨.inl rfl,trivial⟩ (by show _+((z1d7 c torn).s.length+0)≤_;omega);refine Wp.callN e9 ?_;rw[e61,e28];exact hk h9 v9 (by rw[hcc];exact K8.trans K9)
   ·exact y8 (zca (by omega)) (no (fun h=>h3 h.2.1))
  ·rw [decide_eq_false (show ¬ torn > 0 from h2), e35]
   rw[if_neg (fun h=>h2 h.1)] at hcc;refine y7 fun k28 e28=>y8 rfl ?_;rw[e28];exact hk h4 v4 (by rw[hcc];exact K4)
 ·rw [List.getElem?_eq_none (by omega)] at hcc
  refine y8 (by rw[decide_eq_false_iff_not];omega) ?_;rw[e35];refine y7 fun k28 e28=>y8 rfl ?_;rw[e28];exact hk h4 v4 (by rw[hcc];exact K4)
end
abbrev TSt:Nat:=62
abbrev TFi:Nat:=65
abbrev TRD:Nat:=68
abbrev TCr:Nat:=75
abbrev z421:Nat:=63
noncomputable def ze1(x:Cont):List AV:=[.bool x.th,z5 x.u]
noncomputable def z1d1(c:Chg):List AV:=[.int .i64 ((c.k:Int)+1),z5 c.s,.int .i64 c.n]
def doR(x:Cont)(c:Chg):Cont:=if c.k=0 then ⟨true,x.u++c.s⟩ else if c.k=1 then ⟨true,x.u.take c.n.toNat⟩ else ⟨false,[]⟩
def z1bf:Cont→List Chg→Prop
 |_,[]=>True
 |x,c::l=>(c.k=1→x.th=true)∧z1bf (do1 x c) l
theorem doR_eq{x:Cont}{c:Chg}(h:c.k=1→x.th=true):doR x c=do1 x c:=by
 unfold doR do1
 split
 ·rfl
 ·split
  ·rename_i h1
   rw[h h1]
  ·rfl
theorem z2df:∀(l:List Chg) (x:Cont) (c:Chg),z1bf x l→(c.k=1→(doL x l).th=true)→z1bf x (l++[c])
 |[],_,_,_,h=>⟨h,trivial⟩
 |a::l,x,c,h1,h2=>⟨h1.1,z2df l (do1 x a) c h1.2 h2⟩
theorem z2e0:∀(l:List Chg) (x:Cont) (i:Nat) (hi:i<l.length),z1bf x l→(l[i].k=1→(doL x (l.take i)).th=true)
 |[],_,_,hi,_=>absurd hi (Nat.not_lt_zero _)
 |_::_,_,0,_,h=>h.1
 |a::l,x,i+1,hi,h=>z2e0 l (do1 x a) i (Nat.lt_of_succ_lt_succ hi) h.2
theorem z375:∀(l:List Chg) (x:Cont) (i:Nat) (hi:i<l.length),z2fb x l→z3bb (doL x (l.take i)) l[i]
 |[],_,_,hi,_=>absurd hi (Nat.not_lt_zero _)
 |_::_,_,0,_,h=>h.1
 |a::l,x,i+1,hi,h=>z375 l (do1 x a) i (Nat.lt_of_succ_lt_succ hi) h.2
section
variable {n d:Nat}{h:AHeap}{x:Cont}{c:Chg}
theorem done_r(hL:z3bb x c)(hb:x.u.length+c.s.length≤1000000000):world n (d+1) 48 [.agg (ze1 x),.agg (z1d1 c)] h=some (.ret (.agg (ze1 (doR x c))),h):=by
 apply Wp.eq;rw[z384];refine y3b ?_
 suffices hK:Wp (z11d (world n d) n (ze1 x) (z1d1 c) h) fun r h'=>r=.ret (.agg (ze1 (doR x c)))∧Tch [] h h' from hK.mono fun r h' ⟨e,t⟩=>⟨t.above,by rw[e];rfl,e,rfl⟩
 unfold z11d;refine y1f (Mem.nil [] h) rfl fun h2 M2=>y1f M2 rfl fun h3 M3=>y12 M3 fun h4 M4=>?_;have g0:(z1d1 c)[0]? =some (.int .i64 ((c.k:Int)+1)):=rfl;have g1:(z1d1 c)[1]? =some (z5 c.s):=rfl;have g2:(z1d1 c)[2]? =some (.int .i64 c.n):=rfl;have q1:(ze1 x)[1]? =some (z5 x.u):=rfl;refine Wp.obind (z8 _ _ _) (y31 M4 g0 (Wp.obind (z7 _ _) (Wp.lett ?_)))
 rcases hL with h0|⟨h1,hc0,hc1⟩|h2
 ·have e : doR x c = ⟨true, x.u ++ c.s⟩ := if_pos h0
  rw[e];refine y9 (z127 (by omega)) (Wp.obind (z8 _ _ _) (y40 M4 q1 (Wp.obind (ze _) (Wp.obind (z8 _ _ _) (y31 M4 g1 (Wp.obind (ze _) (Wp.obind (zb3 hb) ?_)))))));rw[z23];exact y18 M4 rfl rfl rfl fun h5 M5=>y1e M5 rfl (Wp.ret ⟨rfl,M5.tch⟩)
 ·have e : doR x c = ⟨true, x.u.take c.n.toNat⟩ := by
   unfold doR;rw[if_neg (by omega),if_pos h1]
  rw[e];have hsl:=z28 (l:=x.u) (a:=0) (b:=c.n) (Int.le_refl _) hc0 hc1;rw[show (0:Int).toNat=0 from rfl,List.drop_zero,Nat.sub_zero] at hsl;refine y8 (zca (by omega)) (Wp.lett (y9 (z127 (by omega)) (Wp.obind (z8 _ _ _) (y40 M4 q1 (Wp.obind (ze _) (Wp.obind (z8 _ _ _) (y31 M4 g2 (Wp.obind (z7 _ _) (Wp.obind hsl ?_)))))))));rw[z23];exact y18 M4 rfl rfl rfl fun h5 M5=>y1e M5 rfl (Wp.ret ⟨rfl,M5.tch⟩)
 ·have e : doR x c = ⟨false, []⟩ := by
   unfold doR;rw[if_neg (by omega),if_neg (by omega)]
  rw[e];refine y8 (zca (by omega)) (Wp.lett (y8 (zca (by omega)) ?_));rw[z23];exact y18 M4 rfl rfl rfl fun h5 M5=>y1e M5 rfl (Wp.ret ⟨rfl,M5.tch⟩)
end
def RL(h:AHeap)(v:AV)(l:List Chg):Prop:=(v=.nsl∧l=[])∨∃b,v=.sl b 0 l.length 3∧l≠[]∧RowH h b TCr (l.map z1d1).flatten∧b<h.next
theorem z2d1(l:List Chg):(l.map z1d1).flatten.length=l.length*3:=by
 have:=z28c (sz:=3) (l.map z1d1) (fun r hr=>by
  obtain⟨c,_,rfl⟩:=List.mem_map.1 hr;rfl)
 rw[List.length_map] at this;exact this
theorem chgsR_one(l:List Chg):(l.map z1d1).flatten.all AV.one=true:=by
 rw[List.all_eq_true];intro x hx;obtain⟨r,hr,hxr⟩:=List.mem_flatten.1 hx;obtain⟨c,_,rfl⟩:=List.mem_map.1 hr
 rcases List.mem_cons.1 hxr with rfl|hxr
 ·rfl
 ·rcases List.mem_cons.1 hxr with rfl | hxr
  ·rfl
  ·rw [List.mem_singleton.1 hxr]
   rfl
section
variable {h h':AHeap}{v:AV}{l:List Chg}
theorem RL.tch{S:List Nat}(k:RL h v l)(t:Tch S h h')(hS:∀b∈z60 v,b ∉ S):RL h' v l:=by
 rcases k with k|⟨c,rfl,h1,h2,h3⟩
 ·exact .inl k
 ·exact .inr ⟨c,rfl,h1,h2.tch t h3 (hS c (List.mem_singleton.2 rfl)),Nat.lt_of_lt_of_le h3 t.1⟩
theorem RL.len(k:RL h v l):z12d v=some (l.length:Int):=by
 rcases k with⟨rfl,rfl⟩|⟨c,rfl,_⟩<;>rfl
theorem RL.lt(k:RL h v l):∀b∈z60 v,b<h.next:=by
 rcases k with⟨rfl,_⟩|⟨c,rfl,_,_,h3⟩
 ·exact fun b hb=>(nomatch hb)
 ·intro b hb
  rw[List.mem_singleton.1 hb];exact h3
theorem RL.at(k:RL h v l){i:Nat}(hi:i<l.length):∃b o,z60 v=[b]∧z150 3 v (i:Int)=some (.ptr b o)∧z2c h 3 (.ptr b o)=some (z1d1 l[i])∧zc h (.ptr b o)=some (.int .i64 ((l[i].k:Int)+1))∧zc h (.ptr b (o+1))=some (z5 l[i].s):=by
 rcases k with⟨rfl,rfl⟩|⟨b,rfl,h1,h2,h3⟩
 ·exact absurd hi (Nat.not_lt_zero _)
 ·have hl := z2d1 l
  have hp:=z2c1 (sz:=3) (l.map z1d1) i (by rw[List.length_map];exact hi) (fun r hr=>by
   obtain⟨c,_,rfl⟩:=List.mem_map.1 hr;rfl)
  have e:((l.map z1d1).flatten.drop (0+i*3)).take 3=z1d1 l[i]:=by
   rw[Nat.zero_add,hp,List.getElem_map]
  have hg:∀j,j<3→(l.map z1d1).flatten[0+i*3+j]? =(z1d1 l[i])[j]?:=fun j hj=>by
   rw[←e,List.getElem?_take_of_lt hj,List.getElem?_drop]
  refine⟨b,0+i*3,rfl,idx3 hi,?_,RowH.cell' h2 (hg 0 (by decide)),RowH.cell' h2 (hg 1 (by decide))⟩;rw[h2.ld (by omega),e]
theorem z449:z482 Try.prog TCr 32=true:=by kernel_rfl
theorem bldSlR(h:AHeap)(k:Int)(s:Bytes)(n:Int):z1df Try.prog h z421 1 [(0,.agg [.int .i64 k,z5 s,.int .i64 n])]=z83 h TCr [.int .i64 k,z5 s,.int .i64 n] 1 3:=by kernel_rfl
theorem RL.copy(k:RL h v l)(hm:l.length<20000000)(hx:h.ex=[89]):∃v' h',z34 Try.prog h z421 z421 .nsl v=some (.val v',h')∧RL h' v' l∧Tch [] h h'∧∀b∈z60 v',h.next≤b:=by
 have he:Abs.elemOf Try.prog z421=some TCr:=by kernel_rfl
 have hu:z106 Try.prog z421=true:=by kernel_rfl
 have hsz:Try.prog.cellsOf TCr=3:=by kernel_rfl
 have hex:zbf TCr h.ex=false:=by rw[hx];rfl
 rcases k with⟨rfl,rfl⟩|⟨b,rfl,h1,h2,h3⟩
 ·refine ⟨.nsl, h, ?_, .inl ⟨rfl, rfl⟩, Tch.refl _ _, fun _ h => (nomatch h)⟩
  have hfit:=z31 (P:=Try.prog) (e:=TCr) (B:=32) (k:=0+0) z449 (by omega) (by omega);have hf:z10d h 3 0 .nsl=some []:=rfl;have hl:z205 .nsl=some 0:=rfl;unfold z106 at hu;unfold z34
  split at hu
  ·cases hu
  ·rename_i ud hni heq
   simp only[he,hl,heq,hsz,hf,hfit,hex,List.all_nil,and_self,if_true];rfl
  ·cases hu
 ·obtain ⟨m, hm2⟩ : ∃ m, l.length = m + 1 := by
   cases l with
   |nil=>exact absurd rfl h1
   |cons a t=>exact⟨t.length,rfl⟩
  have hl:=z2d1 l
  have hf:z10d h 3 (m+1) (.sl b 0 l.length 3)=some (l.map z1d1).flatten:=by
   rw[z143 (by omega)];have:=h2.part (o:=0) (n:=(l.map z1d1).flatten.length) (by omega);rw[List.drop_zero,List.take_length] at this;rw[show (m+1)*3=(l.map z1d1).flatten.length by omega];exact this
  have a1:=z128 (P:=Try.prog) (h:=h) (t:=z421) (u:=z421) (n:=m) (x:=.sl b 0 l.length 3) he hu hsz (by rw[hm2];rfl) hf (z31 z449 (by omega) (by omega)) (chgsR_one l) hex;refine⟨_,_,a1,.inr ⟨h.next,by rw[hm2],h1,RowH.new _ _ _,Nat.lt_succ_self _⟩,Tch.newH _ _ _ _,fun b hb=>by rw[List.mem_singleton.1 hb];exact Nat.le_refl _⟩
theorem RL.push{b1:Nat}{c:Chg}(k:RL h v l)(kr:RowH h b1 TCr (z1d1 c))(hm:l.length<20000000)(hx:h.ex=[89]):
  ∃h',z34 Try.prog h z421 z421 v (.sl b1 0 1 3)=some (.val (.sl h.next 0 (l.length+1) 3),h')∧RL h' (.sl h.next 0 (l.length+1) 3) (l++[c])∧Tch (z60 v) h h':=by
 have he:Abs.elemOf Try.prog z421=some TCr:=by kernel_rfl
 have hu:z106 Try.prog z421=true:=by kernel_rfl
 have hsz:Try.prog.cellsOf TCr=3:=by kernel_rfl
 have hex:zbf TCr h.ex=false:=by rw[hx];rfl
 have eb:((l++[c]).map z1d1).flatten=(l.map z1d1).flatten++z1d1 c:=by
  rw[List.map_append,List.flatten_append];show _++(z1d1 c++[])=_;rw[List.append_nil]
 have el:l.length+1=(l++[c]).length:=by rw[List.length_append,List.length_singleton]
 have hne:l++[c]≠[]:=by
  intro h;have:=congrArg List.length h;rw[List.length_append,List.length_singleton] at this;exact absurd this (Nat.succ_ne_zero _)
 rcases k with⟨rfl,rfl⟩|⟨b,rfl,h1,h2,h3⟩
 ·have a1 := z128 (P := Try.prog) (h := h) (t := z421) (u := z421) (n := 0) (x := .sl b1 0 1 3) he hu hsz rfl (z1cd kr rfl) (z31 z449 (by omega) (by omega)) rfl hex
  refine⟨_,a1,.inr ⟨h.next,by rw[el],hne,?_,Nat.lt_succ_self _⟩,Tch.newH _ _ _ _⟩;rw[eb];exact RowH.new _ _ _
 ·have hcl := z2d1 l
  have a1:=zc4 (P:=Try.prog) (h:=h) (t:=z421) (u:=z421) (b:=b) (o:=0) (m:=l.length) (n:=0) (x:=.sl b1 0 1 3) (cs:=(l.map z1d1).flatten) he hu hsz rfl (z1cd kr rfl) (z31 z449 (by omega) (by omega)) rfl hex (by
   have:=h2.part (o:=0) (n:=(l.map z1d1).flatten.length) (by omega);rw[List.drop_zero,List.take_length] at this;rw[show l.length*3=(l.map z1d1).flatten.length by omega];exact this) h2.type
  refine⟨_,a1,.inr ⟨h.next,by rw[el],hne,?_,Nat.lt_succ_self _⟩,(Tch.put (S:=[b]) (.inl (List.mem_singleton.2 rfl)) _).trans (Tch.newH _ _ _ _)⟩;rw[eb];exact RowH.new (h.put b .dead) _ _
end
def z461(x:Cont)(l:List Chg)(B:Nat):Prop:=z2fb x l∧z1bf x l∧x.u.length+z29a l≤B∧l.length≤B
section
variable {n d B:Nat}{h:AHeap}{x:Cont}{l:List Chg}{v:AV}
theorem z457(x:Cont)(l:List Chg){i:Nat}(hi:i<l.length):doL x (l.take (i+1))=do1 (doL x (l.take i)) l[i]:=by
 rw[List.take_succ_eq_append_getElem hi,z458]
theorem z39b(ok:z461 x l B)(hB:B<1000000)(rl:RL h v l){h4:AHeap}{b1 b2:Nat}{k16:AHeap→R}{Q:ARes→AHeap→Prop}{y2:List AV}(hk:∀H,Abs.Mem [] h H [(h4.next,TSt,ze1 (doL x l)),(b2,TSt,y2),(b1,TFi,ze1 x++[v])]→Wp (k16 H) Q):
  ∀(r i fu:Nat) (H:AHeap),r+i=l.length→r<fu→Abs.Mem [] h H [(h4.next,TSt,ze1 (doL x (l.take i))),(b2,TSt,y2),(b1,TFi,ze1 x++[v])]→Wp (z102 (world n (d+1)) (.ptr b1 0) h4 k16 fu (i:Int) H) Q
 |_,_,0,_,_,hf,_=>by omega
 |0,i,fu+1,H,hi,_,M=>by
  rw[z15c];unfold zd6;refine Wp.obind (z8 _ _ _) (y40 M (show (ze1 x++[v])[2]? =some v from rfl) (Wp.obind rl.len (Wp.lett (y8 (by rw[decide_eq_false_iff_not];omega) ?_))));rw[List.take_of_length_le (by omega)] at M;exact hk H M
 |r+1,i,fu+1,H,hi,hf,M=>by
  have hil:i<l.length:=by omega
  obtain⟨o1,o2,o3,o4⟩:=ok;have hst:=z1f1 l i hil;have hdl:=z13b (l.take i) x;obtain⟨b,o,hb,i1,r1,_⟩:=(rl.tch M.tch (fun _ _ h=>(nomatch h))).at hil;rw[z15c];unfold zd6;refine Wp.obind (z8 _ _ _) (y40 M (show (ze1 x++[v])[2]? =some v from rfl) (Wp.obind rl.len (Wp.lett (y9 (by rw[decide_eq_true_eq];omega) ?_))));rw[z23];refine y1e M rfl (Wp.obind (z8 _ _ _) (y40 M (show (ze1 x++[v])[2]? =some v from rfl) (Wp.obind i1 (Wp.obind r1 (Wp.callN (done_r (n:=n) (d:=d) (z375 l x i hil o1) (by omega)) (Wp.obind (z40 _) (y18 M rfl rfl rfl fun h5 M5=>yd (by omega) (by omega) ?_)))))));rw[doR_eq (z2e0 l x i hil o2), ←z457 x l hil] at M5;rw[show (i:Int)+1=((i+1:Nat):Int) by omega];exact z39b ⟨o1,o2,o3,o4⟩ hB rl hk r (i+1) fu h5 (by omega) (by omega) M5
theorem seen_r(hn:1000000<n)(ok:z461 x l B)(hB:B<1000000)(rl:RL h v l):world n (d+2) 67 [.agg (ze1 x++[v])] h=some (.ret (.agg (ze1 (doL x l))),h):=by
 apply Wp.eq;rw[z383];refine y3b ?_
 suffices hK:Wp (z11c (world n (d+1)) n (ze1 x++[v]) h) fun r h'=>r=.ret (.agg (ze1 (doL x l)))∧Tch [] h h' from hK.mono fun r h' ⟨e,t⟩=>⟨t.above,by rw[e];rfl,e,rfl⟩
 unfold z11c;have hv:v.one=true:=by rcases rl with⟨rfl,_⟩|⟨b,rfl,_⟩<;>rfl
 have hall:(ze1 x++[v]).all AV.one=true:=by
  show (true&&(true&&(v.one&&true)))=true;rw[hv];rfl
 refine y1f (Mem.nil [] h) hall fun h2 M2=>y12 M2 fun h4 M4=>?_
 have hr:∀H,Abs.Mem [] h H [(h2.next,TSt,[AV.bool false,AV.str 0 0]),(h.next,TFi,ze1 x++[v])]→z2c H 2 (.ptr h.next 0)=some (ze1 x):=fun H M=>by
  have:=M.at1.1.ld (o:=0) (n:=2) (by show 2≤3;decide);exact this
 refine Wp.obind (z8 _ _ _) (Wp.obind (hr _ M4) (y12 M4 fun h5 M5=>?_));rw[z23,z23];refine y18 M5 rfl rfl rfl fun h6 M6=>y7 fun k16 ek=>?_;obtain⟨_,_,_,o4⟩:=id ok;refine z39b (h4:=h4) (b1:=h.next) (b2:=h2.next) ok hB rl (fun H M=>?_) l.length 0 n h6 (Nat.add_zero _) (by omega) M6;rw[ek];exact y1e M rfl (Wp.sa1 M rfl rfl rfl fun h7 M7=>Wp.lr1 M7 rfl (Wp.ret ⟨rfl,M7.tch⟩))
end
section
variable {lo:Nat→Prop}{n d db:Nat}{h:AHeap}{D:List AV}{fs:Nat→FileS}{vs:Nat→Nat→AV}{p:Int}{ops B f:Nat}{s:DS}
theorem fcrash_ok(hn:1000000<n)(K:DiskAt lo h db D fs vs p ops B)(hf:f<32)(hb:B<900000){kept torn:Int}(ht:torn<9223372036854775808):
  ∃h' D' vs' S,world n (d+3) 49 [.ptr db (5*f),.int .i64 kept,.int .i64 torn] h=some (.ret (.tup []),h')∧DiskAt lo h' db D' (upd fs f (zdf (fs f) kept torn)) vs' p ops B∧Tch S h h'∧∀b∈S,lo b:=by
 suffices hK:Wp (world n (d+3) 49 [.ptr db (5*f),.int .i64 kept,.int .i64 torn] h) fun r h'=>r=.ret (.tup [])∧∃D' vs' S,DiskAt lo h' db D' (upd fs f (zdf (fs f) kept torn)) vs' p ops B∧Tch S h h'∧∀b∈S,lo b by
  obtain⟨_,h',e,rfl,D',vs',S,k⟩:=hK;exact⟨h',D',vs',S,e,k⟩
 rw[z23d];unfold z98;refine crash_do hn K hf hb ht (fun H v K4=>?_);have C:=K.cells f hf;have Mf:=K.mem f hf;have hlen:=K.len;have hdb:=K.hdb;have hcl:=z326 kept torn (K.ok f hf);have hdb4:db<H.next:=Nat.lt_of_lt_of_le hdb K4.tch.1
 have g0:((D.set (5*f+0) (.bool (za6 (fs f) kept torn).th)).set (5*f+0+1) v)[5*f+0]? =some (.bool (za6 (fs f) kept torn).th):=by
  rw[List.getElem?_set_ne (by omega),List.getElem?_set_self (by omega)]
 have g1:((D.set (5*f+0) (.bool (za6 (fs f) kept torn).th)).set (5*f+0+1) v)[5*f+0+1]? =some v:=by
  rw[List.getElem?_set_self (by rw[List.length_set];omega)]
 obtain⟨h5,v5,e5,k5,t5,s5⟩:=z417 (n:=n) (d:=d) K4.row hdb4 g0 g1 K4.buf K4.ex (by omega);refine Wp.obind (zf _ _) (Wp.obind (z8 _ _ _) (Wp.callN e5 (Wp.obind (z40 _) (Wp.obind (zf _ _) (Wp.obind (z8 _ _ _) ?_)))));have hn5:=t5.1;have kr5:=K4.row.tch t5 hdb4 (fun h=>nomatch h);have hl4:((D.set (5*f+0) (.bool (za6 (fs f) kept torn).th)).set (5*f+0+1) v).length=162:=by rw[List.length_set,List.length_set];exact hlen
 refine y3c kr5 (rfl:([.bool (za6 (fs f) kept torn).th,v5]:List AV).length=2) (show 5*f+2+2≤_ by omega) (by rw[show [AV.bool (za6 (fs f) kept torn).th,v5].all AV.one=(true&&(v5.one&&true)) from rfl,k5.one.1];rfl) fun h6 k6 t6 n6=>?_;rw[laid2 (show 5*f+2+1<_ by omega)] at k6;refine Wp.obind (zf _ _) (Wp.obind (z8 _ _ _) ?_);show Wp (Abs.obind (z22 h6 1 [AV.nsl] (.ptr db (5*f+4))) _) _;refine Wp.st1 k6 (show 5*f+4<_ by rw[List.length_set,List.length_set];omega) rfl fun h7 k7 t7 n7=>?_;have hn4:=K4.tch.1;have td:∀b∈[db],b∈db::z60 (vs f 0)∨h.next≤b:=fun b hb=>.inl (by rw[List.mem_singleton.1 hb];exact List.mem_cons_self);have T:Tch (db::z60 (vs f 0)) h h7:=(((K4.tch.trans' t5 fun b hb=>nomatch hb).trans' t6 td).trans' t7 td)
 have nd5:db ∉ z60 v5:=fun hb=>by
  have:=s5 _ hb;omega
 have KU:=K.upd (B':=B) (x:=zdf (fs f) kept torn) (w:=fun k=>if k=0 then v else if k=1 then v5 else .nsl) hf T (fun b hb=>?_) k7 (by rw[List.length_set,List.length_set,List.length_set];exact hl4) ⟨?_,?_,?_,?_,?_⟩ (fun i hi=>?_) (fun k hk b hb=>?_) (fun k l hk hl hne b hb hb'=>?_) ⟨?_,?_,?_⟩ (z3d2 kept torn (K.ok f hf)) (Nat.le_refl _)
 ·refine Wp.ret ⟨rfl, _, _, db :: z60 (vs f 0), KU, T, fun b hb => ?_⟩
  rcases List.mem_cons.1 hb with hb|hb
  ·rw [hb]
   exact K.hlo
  ·exact K.low f 0 hf (by decide) b hb
 ·rcases List.mem_cons.1 hb with hb | hb
  ·exact .inl hb
  ·exact .inr ⟨0,by decide,hb⟩
 ·rw [List.getElem?_set_ne (by omega), List.getElem?_set_ne (by omega), List.getElem?_set_ne (by omega)]
  exact g0
 ·rw [List.getElem?_set_ne (by omega), List.getElem?_set_ne (by omega), List.getElem?_set_ne (by omega)]
  exact g1
 ·rw [List.getElem?_set_ne (by omega), List.getElem?_set_ne (by omega), List.getElem?_set_self (by omega)]
  rfl
 ·rw [List.getElem?_set_ne (by omega), List.getElem?_set_self (by rw [List.length_set]; omega)]
  rfl
 ·rw [List.getElem?_set_self (by rw [List.length_set, List.length_set]; omega)]
  rfl
 ·rw[List.getElem?_set_ne (by omega),List.getElem?_set_ne (by omega),List.getElem?_set_ne (by omega),List.getElem?_set_ne (by omega),List.getElem?_set_ne (by omega)]
 ·rcases k with _ | _ | k
  ·exact K4.sub b hb
  ·right
   have:=s5 b hb;omega
  ·exact nomatch hb
 ·have q01 : b ∈ z60 v → b ∈ z60 v5 → False := fun h0 h1 => by
   have h2:=s5 b h1;have h3:=K4.buf.lt b h0;omega
  rcases k with _|_|k<;>rcases l with _|_|l
  ·omega
  ·exact q01 hb hb'
  ·exact nomatch hb'
  ·exact q01 hb' hb
  ·omega
  ·exact nomatch hb'
  ·exact nomatch hb
  ·exact nomatch hb
  ·exact nomatch hb
 ·have k1 := K4.buf.tch t5 (fun _ _ h => nomatch h)
  have k2:=k1.tch t6 fun b hb hm=>K4.ndb (List.mem_singleton.1 hm▸hb);exact k2.tch t7 fun b hb hm=>K4.ndb (List.mem_singleton.1 hm▸hb)
 ·have k2 := k5.tch t6 fun b hb hm => nd5 (List.mem_singleton.1 hm ▸ hb)
  exact k2.tch t7 fun b hb hm=>nd5 (List.mem_singleton.1 hm▸hb)
 ·exact .inl ⟨rfl,rfl⟩
def RdI(lo:Nat→Prop)(h:AHeap)(lv:AV)(zs:List Int):Prop:=z12d lv=some (zs.length:Int)∧∀S H,Tch S h H→(∀b∈S,lo b)→∀(i:Nat) (hi:i<zs.length),∃p,z150 1 lv (i:Int)=some p∧zc H p=some (.int .i64 zs[i])
theorem RdI.tch{S:List Nat}{h h':AHeap}{lv:AV}{zs:List Int}(k:RdI lo h lv zs)(t:Tch S h h')(hS:∀b∈S,lo b):RdI lo h' lv zs:=
 ⟨k.1,fun S' H t' hS' i hi=>k.2 (S++S') H ((t.mono fun _ hb=>.inl (List.mem_append_left _ hb)).trans (t'.mono fun _ hb=>.inl (List.mem_append_right _ hb))) (fun b hb=>(List.mem_append.1 hb).elim (hS b) (hS' b)) i hi⟩
def z56(zs:List Int)(f:Nat):Int:=zs.getD f 0
def z1e7(s:DS)(zs:List Int)(torn:Int):DS:=⟨fun f=>if f<32 then zdf (s.fs f) (z56 zs f) torn else s.fs f, -1,s.ops⟩
theorem z324(hn:1000000<n)(hb:B<900000){torn:Int}(ht:torn<9223372036854775808){lv:AV}{zs:List Int}(hz:zs.length<9223372036854775808){k11:AHeap→R}{Q:ARes→AHeap→Prop}(hk:∀S H,At lo H db ⟨fun f=>if f<32 then zdf (s.fs f) (z56 zs f) torn else s.fs f,s.p,s.ops⟩ B→Tch S h H→(∀b∈S,lo b)→Wp (k11 H) Q):
  ∀(r i fu:Nat) (H:AHeap) (S:List Nat),r+i=32→r<fu→At lo H db ⟨fun f=>if f<i then zdf (s.fs f) (z56 zs f) torn else s.fs f,s.p,s.ops⟩ B→Tch S h H→(∀b∈S,lo b)→RdI lo H lv zs→
   Wp (z81 (world n (d+3)) (.ptr db 0) lv torn k11 fu (i:Int) H) Q
 |_,_,0,_,_,_,hf,_,_,_,_=>by omega
 |0,i,fu+1,H,S,hi,hf,K,t,hS,rd=>by
  obtain rfl:i=32:=by omega
  rw[zd0];unfold z72;exact Wp.lett (y8 rfl (hk S H K t hS))
 |r+1,i,fu+1,H,S,hi,hf,K,t,hS,rd=>by
  obtain⟨D,vs,K⟩:=K;have hi32:i<32:=by omega
  rw[zd0];unfold z72;refine Wp.lett (y9 (by rw[decide_eq_true_eq];omega) (Wp.obind rd.1 (Wp.lett (y7 fun k32 e32=>?_))))
  have next:∀z:Int,z=z56 zs i→Wp (k32 z H) Q:=by
   intro z hzk;rw[e32,hzk];refine Wp.obind (zf _ _) (Wp.obind (z8 _ _ _) (Wp.obind (idxF hi32) ?_));obtain⟨h2,D2,vs2,S2,e2,K2,t2,hS2⟩:=fcrash_ok (n:=n) (d:=d) hn K hi32 hb (kept:=z56 zs i) ht;refine Wp.callN e2 (yd (by omega) (by omega) ?_);rw[show (i:Int)+1=((i+1:Nat):Int) by omega];refine z324 hn hb ht hz hk r (i+1) fu h2 (S++S2) (by omega) (by omega) ⟨D2,vs2,?_⟩ ((t.mono fun _ hb=>.inl (List.mem_append_left _ hb)).trans (t2.mono fun _ hb=>.inl (List.mem_append_right _ hb))) (fun b hb=>(List.mem_append.1 hb).elim (hS b) (hS2 b)) (rd.tch t2 hS2)
   have ef:upd (fun f=>if f<i then zdf (s.fs f) (z56 zs f) torn else s.fs f) i (zdf ((fun f=>if f<i then zdf (s.fs f) (z56 zs f) torn else s.fs f) i) (z56 zs i) torn)=fun f=>if f<i+1 then zdf (s.fs f) (z56 zs f) torn else s.fs f:=by
    funext j
    unfold Go.Proofs.Ytpnccmlajhhpdaa.upd;dsimp only
    by_cases e:j=i
    ·subst e
     rw[if_pos rfl,if_neg (Nat.lt_irrefl _),if_pos (Nat.lt_succ_self _)]
    ·rw [if_neg e]
     by_cases e2:j<i
     ·rw[if_pos e2,if_pos (by omega)]
     ·rw[if_neg e2,if_neg (by omega)]
   rw[←ef];exact K2
  by_cases h1:i<zs.length
  ·obtain ⟨pp, q1, q2⟩ := rd.2 [] H (Tch.refl _ _) (fun _ h => nomatch h) i h1
   refine y9 (by rw[decide_eq_true_eq];omega) (Wp.obind q1 (Wp.obind q2 (Wp.obind (z7 _ _) (next _ ?_))));unfold z56;rw[List.getD_eq_getElem?_getD,List.getElem?_eq_getElem h1];rfl
  ·refine y8 (by rw [decide_eq_false_iff_not]; omega) (next _ ?_)
   unfold z56;rw[List.getD_eq_getElem?_getD,List.getElem?_eq_none (by omega)];rfl
theorem z459(hn:1000000<n)(hb:B<900000){torn:Int}(ht:torn<9223372036854775808){lv:AV}{zs:List Int}(hz:zs.length<9223372036854775808)(K:At lo h db s B)(rd:RdI lo h lv zs):
  Does lo db h (world n (d+4) 25 [.ptr db 0,lv,.int .i64 torn] h) 0 (z1e7 s zs torn) B:=by
 apply Does.of;rw[z242];unfold z9d;refine Wp.outK (z26d db 0 h) (Wp.obind (z11 _) (y8 rfl (y7 fun k11 e11=>z324 (s:=s) hn hb ht hz (fun S H K' t hS=>?_) 32 0 n h [] rfl (by omega) ?_ (Tch.refl _ _) (fun _ h=>nomatch h) rd)))
 ·obtain ⟨D, vs, K'⟩ := K'
  have hl:=K'.len;rw[e11];refine Wp.obind (zf _ _) (Wp.obind (z8 _ _ _) (Wp.st1 K'.row (show 0+160<D.length by omega) rfl fun h2 k2 t2 n2=>?_));rw[Nat.zero_add] at k2;refine Wp.ret ⟨rfl,db::S,⟨_,vs,K'.setP (p':= -1) ⟨Int.le_refl _,by decide⟩ k2 t2⟩,(t.mono fun _ hb=>.inl (List.mem_cons_of_mem _ hb)).trans' t2 fun b hb=>.inl (by rw[List.mem_singleton.1 hb];exact List.mem_cons_self),fun b hb=>?_⟩
  rcases List.mem_cons.1 hb with hb|hb
  ·rw [hb]
   exact K'.hlo
  ·exact hS b hb
 ·have e : (fun f => if f < 0 then zdf (s.fs f) (z56 zs f) torn else s.fs f) = s.fs := by
   funext j
   rw[if_neg (Nat.not_lt_zero _)]
  rw[e];exact K
end
structure RefC (D:List AV) (f:Nat) (x:FileS) (v:AV):Prop where
 c0:D[3*f]? =some (.bool x.sure.th)
 c1:D[3*f+1]? =some (z5 x.sure.u)
 c2:D[3*f+2]? =some v
structure RefD (lo:Nat→Prop) (h:AHeap) (rb:Nat) (D:List AV) (vs:Nat→AV) (s:DS):Prop where
 row:RowH h rb TRD D
 hrb:rb<h.next
 nlo:¬lo rb
 len:D.length=98
 cells:∀f,f<32→RefC D f (s.fs f) (vs f)
 cp:D[96]? =some (.int .i64 s.p)
 co:D[97]? =some (.int .i64 (s.ops:Int))
 rl:∀f,f<32→RL h (vs f) (s.fs f).loose
 nb:∀f,f<32→∀b∈z60 (vs f),¬lo b∧b≠rb
def RefAt(lo:Nat→Prop)(h:AHeap)(rb:Nat)(s:DS):Prop:=∃D vs,RefD lo h rb D vs s
structure SOk (s:DS) (B:Nat):Prop where
 ok:∀f,f<32→FileOk (s.fs f) B
 lt:∀f,f<32→z1bf (s.fs f).sure (s.fs f).loose
 hp: -1≤s.p∧s.p<9223372036854775808
 ho:s.ops≤B
theorem SOk.seen{s:DS}{B f:Nat}(k:SOk s B)(hf:f<32):z461 (s.fs f).sure (s.fs f).loose B:=by
 obtain⟨o1,o2,o3,o4⟩:=k.ok f hf;exact⟨o2,k.lt f hf,o3,o4⟩
theorem idxR{b i:Nat}(h:i<32):z169 32 3 (.ptr b (0+0)) (i:Int)=some (.ptr b (3*i)):=by
 have e:Nat.blt i 32=true:=by simpa using h
 show (match Nat.blt i 32 with|true=>some (AV.ptr b (0+0+i*3))|false=>none)=_;rw[e,show 0+0+i*3=3*i by omega]
section
variable {lo lo':Nat→Prop}{n d rb B f:Nat}{h h':AHeap}{D:List AV}{vs:Nat→AV}{s:DS}
theorem RefD.tch{S:List Nat}(k:RefD lo h rb D vs s)(t:Tch S h h')(hS:∀b∈S,lo b∨h.next≤b)(hl:∀b,lo' b→b<h.next→lo b):RefD lo' h' rb D vs s:=by
 have h1:=k.hrb;refine⟨k.row.tch t h1 fun hm=>?_,Nat.lt_of_lt_of_le h1 t.1,fun hh=>k.nlo (hl _ hh h1),k.len,k.cells,k.cp,k.co,fun f hf=>(k.rl f hf).tch t fun b hb hm=>?_,fun f hf b hb=>⟨fun hh=>(k.nb f hf b hb).1 (hl _ hh ((k.rl f hf).lt b hb)),(k.nb f hf b hb).2⟩⟩
 ·rcases hS _ hm with hm | hm
  ·exact k.nlo hm
  ·omega
 ·have h2 := (k.rl f hf).lt b hb
  rcases hS _ hm with hm|hm
  ·exact(k.nb f hf b hb).1 hm
  ·omega
theorem RefAt.tch{S:List Nat}(k:RefAt lo h rb s)(t:Tch S h h')(hS:∀b∈S,lo b∨h.next≤b)(hl:∀b,lo' b→b<h.next→lo b):RefAt lo' h' rb s:=by
 obtain⟨D,vs,k⟩:=k;exact⟨D,vs,k.tch t hS hl⟩
theorem RefD.set{v:AV}{x:FileS}{D':List AV}(k:RefD lo h rb D vs s)(t:Tch [rb] h h')(hl:∀b,lo' b→b<h.next→lo b)(hf:f<32)(row:RowH h' rb TRD D')(hlen:D'.length=98)(hc:RefC D' f x v)(rest:∀i,(i<3*f∨3*f+3≤i)→D'[i]? =D[i]?)(hr:RL h' v x.loose)(hb:∀b∈z60 v,¬lo' b∧b≠rb):RefD lo' h' rb D' (upd vs f v) ⟨upd s.fs f x,s.p,s.ops⟩:=by
 have h1:=k.hrb;refine⟨row,Nat.lt_of_lt_of_le h1 t.1,fun hh=>k.nlo (hl _ hh h1),hlen,fun f' hf'=>?_,by rw[rest _ (by omega)];exact k.cp,by rw[rest _ (by omega)];exact k.co,fun f' hf'=>?_,fun f' hf' b hb'=>?_⟩
 ·show RefC D' f' (upd s.fs f x f') (upd vs f v f')
  unfold Go.Proofs.Ytpnccmlajhhpdaa.upd
  by_cases e:f'=f
  ·rw [if_pos e, if_pos e, e]
   exact hc
  ·rw [if_neg e, if_neg e]
   have hk:=k.cells f' hf';have key:∀j,j<3→D'[3*f'+j]? =D[3*f'+j]?:=fun j hj=>rest _ (by omega);exact⟨(key 0 (by decide)).trans hk.c0,(key 1 (by decide)).trans hk.c1,(key 2 (by decide)).trans hk.c2⟩
 ·show RL h' (upd vs f v f') (upd s.fs f x f').loose
  unfold Go.Proofs.Ytpnccmlajhhpdaa.upd
  by_cases e:f'=f
  ·rw [if_pos e, if_pos e]
   exact hr
  ·rw [if_neg e, if_neg e]
   exact(k.rl f' hf').tch t fun b hb' hm=>(k.nb f' hf' b hb').2 (List.mem_singleton.1 hm)
 ·unfold Go.Proofs.Ytpnccmlajhhpdaa.upd at hb'
  by_cases e:f'=f
  ·rw [if_pos e] at hb'
   exact hb b hb'
  ·rw [if_neg e] at hb'
   exact⟨fun hh=>(k.nb f' hf' b hb').1 (hl _ hh ((k.rl f' hf').lt b hb')),(k.nb f' hf' b hb').2⟩
theorem RefD.po{p':Int}{o':Nat}{D':List AV}(k:RefD lo h rb D vs s)(t:Tch [rb] h h')(hl:∀b,lo' b→b<h.next→lo b)(row:RowH h' rb TRD D')(hlen:D'.length=98)(rest:∀i,i<96→D'[i]? =D[i]?)(c0:D'[96]? =some (.int .i64 p'))(c1:D'[97]? =some (.int .i64 (o':Int))):RefD lo' h' rb D' vs ⟨s.fs,p',o'⟩:=by
 have h1:=k.hrb;refine⟨row,Nat.lt_of_lt_of_le h1 t.1,fun hh=>k.nlo (hl _ hh h1),hlen,fun f hf=>?_,c0,c1,fun f hf=>(k.rl f hf).tch t fun b hb hm=>(k.nb f hf b hb).2 (List.mem_singleton.1 hm),fun f hf b hb=>⟨fun hh=>(k.nb f hf b hb).1 (hl _ hh ((k.rl f hf).lt b hb)),(k.nb f hf b hb).2⟩⟩;have hk:=k.cells f hf;have key:∀j,j<3→D'[3*f+j]? =D[3*f+j]?:=fun j hj=>rest _ (by omega);exact⟨(key 0 (by decide)).trans hk.c0,(key 1 (by decide)).trans hk.c1,(key 2 (by decide)).trans hk.c2⟩
def z1d9(p z e:Int):Int:=if p=0 then 40 else if 0≤z∧z<32 then e else 2
theorem step_r(K:RefD lo h rb D vs s)(ho:SOk s B)(hB:B<1000000)(z e:Int)(hl:∀b,lo' b→b<h.next→lo b):
  ∃h',world n (d+1) 52 [.ptr rb 0,.int .i64 z,.int .i64 e] h=some (.ret (.int .i64 (z1d9 s.p z e)),h')∧Tch [rb] h h'∧(z1d9 s.p z e≠0→h'=h)∧(z1d9 s.p z e=0→∃D',RefD lo' h' rb D' vs ⟨s.fs,z116 s.p,s.ops+1⟩∧h'.next=h.next):=by
 suffices hK:Wp (world n (d+1) 52 [.ptr rb 0,.int .i64 z,.int .i64 e] h) fun r h'=>r=.ret (.int .i64 (z1d9 s.p z e))∧Tch [rb] h h'∧(z1d9 s.p z e≠0→h'=h)∧(z1d9 s.p z e=0→∃D',RefD lo' h' rb D' vs ⟨s.fs,z116 s.p,s.ops+1⟩∧h'.next=h.next) by
  obtain⟨_,h',e,rfl,k⟩:=hK;exact⟨h',e,k⟩
 rw[z23b];unfold z92;have hp:=ho.hp;have hoo:=ho.ho;have hlen:=K.len;refine Wp.obind (zf _ _) (Wp.obind (z8 _ _ _) (Wp.obind (RowH.cell' K.row (by rw[Nat.zero_add];exact K.cp)) (Wp.obind (z7 _ _) (Wp.lett ?_))))
 by_cases h0:s.p=0
 ·have e1 : z1d9 s.p z e = 40 := if_pos h0
  rw[e1];exact y9 (z127 h0) (Wp.ret ⟨rfl,Tch.refl _ _,fun _=>rfl,fun h=>absurd h (by decide)⟩)
 refine y8 (zca h0) (Wp.lett (y7 fun j19 ej=>?_))
 by_cases h1:0≤z∧z<32
 ·have e1 : z1d9 s.p z e = e := by
   unfold z1d9;rw[if_neg h0,if_pos h1]
  rw[e1];refine y8 (by rw[decide_eq_false_iff_not];omega) (Wp.lett ?_);rw[decide_eq_false (show ¬z≥32 by omega),ej];refine y8 rfl (Wp.lett ?_)
  by_cases h2:e=0
  ·subst h2
   refine y8 rfl (Wp.obind (zf _ _) (Wp.obind (z8 _ _ _) (Wp.obind (RowH.cell' K.row (by rw[Nat.zero_add];exact K.cp)) (Wp.obind (z7 _ _) (Wp.lett (y7 fun k27 ek=>?_))))))
   have fin:∀(H:AHeap) (E:List AV),RowH H rb TRD E→Tch [rb] h H→H.next=h.next→E.length=98→(∀i,i<96→E[i]? =D[i]?)→E[96]? =some (.int .i64 (z116 s.p))→E[97]? =some (.int .i64 (s.ops:Int))→Wp (k27 H) fun r h'=>r=.ret (.int .i64 0)∧Tch [rb] h h'∧((0:Int)≠0→h'=h)∧((0:Int)=0→∃D',RefD lo' h' rb D' vs ⟨s.fs,z116 s.p,s.ops+1⟩∧h'.next=h.next):=by
    intro H E kr t hn hE hr q0 q1;rw[ek];refine Wp.obind (zf _ _) (Wp.obind (z8 _ _ _) (Wp.obind (RowH.cell' kr (by rw[Nat.zero_add];exact q1)) (Wp.obind (z7 _ _) (yd (by omega) (by omega) (Wp.obind (zf _ _) (Wp.obind (z8 _ _ _) (Wp.st1 kr (show 0+97<E.length by omega) rfl fun h3 k3 t3 n3=>?_)))))));have T:=t.trans t3;refine Wp.ret ⟨rfl,T,fun h=>absurd rfl h,fun _=>⟨_,K.po (p':=z116 s.p) (o':=s.ops+1) T hl k3 (by rw[List.length_set];exact hE) (fun i hi=>by rw[List.getElem?_set_ne (by omega)];exact hr i hi) (by rw[List.getElem?_set_ne (by omega)];exact q0) ?_,by omega⟩⟩;rw[Nat.zero_add,List.getElem?_set_self (by omega)];rfl
   by_cases h3:0<s.p
   ·refine y9 (by rw [decide_eq_true_eq]; omega) (Wp.obind (zf _ _) (Wp.obind (z8 _ _ _) (Wp.obind (RowH.cell' K.row (by rw [Nat.zero_add]; exact K.cp)) (Wp.obind (z7 _ _) (yd (by omega) (by omega) (Wp.obind (zf _ _) (Wp.obind (z8 _ _ _) (Wp.st1 K.row (show 0 + 96 < D.length by omega) rfl fun h2 k2 t2 n2 => fin h2 _ k2 t2 n2 (by rw [List.length_set]; exact hlen) (fun i hi => by rw [List.getElem?_set_ne (by omega)]) ?_ (by rw [List.getElem?_set_ne (by omega)]; exact K.co)))))))))
    rw[Nat.zero_add,List.getElem?_set_self (by omega)];unfold z116;rw[if_pos h3]
   ·refine y8 (by rw [decide_eq_false_iff_not]; omega) (fin h D K.row (Tch.refl _ _) rfl hlen (fun _ _ => rfl) ?_ K.co)
    unfold z116;rw[if_neg h3];exact K.cp
  ·exact y9 (z1af h2) (Wp.ret ⟨rfl,Tch.refl _ _,fun _=>rfl,fun h=>absurd h h2⟩)
 ·have e1 : z1d9 s.p z e = 2 := by
   unfold z1d9;rw[if_neg h0,if_neg h1]
  rw[e1]
  have hj:Wp (j19 true h) fun r h'=>r=.ret (.int .i64 2)∧Tch [rb] h h'∧((2:Int)≠0→h'=h)∧((2:Int)=0→∃D',RefD lo' h' rb D' vs ⟨s.fs,z116 s.p,s.ops+1⟩∧h'.next=h.next):=by
   rw[ej];exact y9 rfl (Wp.ret ⟨rfl,Tch.refl _ _,fun _=>rfl,fun h=>absurd h (by decide)⟩)
  by_cases h2:z<0
  ·exact y9 (by rw[decide_eq_true_eq];exact h2) hj
  ·refine y8 (by rw [decide_eq_false_iff_not]; exact h2) (Wp.lett ?_)
   rw[decide_eq_true (show z≥32 by omega)];exact hj
def z1e1(s:DS)(z:Int):Cont:=if 0≤z∧z<32 then (s.fs z.toNat).seen else ⟨false,[]⟩
theorem see_r(hn:1000000<n)(K:RefD lo h rb D vs s)(ho:SOk s B)(hB:B<1000000)(z:Int):∃h',world n (d+3) 44 [.ptr rb 0,.int .i64 z] h=some (.ret (.agg (ze1 (z1e1 s z))),h')∧Tch [] h h':=by
 suffices hK:Wp (world n (d+3) 44 [.ptr rb 0,.int .i64 z] h) fun r h'=>r=.ret (.agg (ze1 (z1e1 s z)))∧Tch [] h h' by
  obtain⟨_,h',e,rfl,k⟩:=hK;exact⟨h',e,k⟩
 rw[z27a];unfold zaa;refine y12 (Mem.nil [] h) fun h2 M2=>Wp.lett (y7 fun j10 ej=>?_);have t2:=M2.tch;rw[z23] at ej;have hlen:=K.len
 by_cases h1:0≤z∧z<32
 ·have e1 : z1e1 s z = (s.fs z.toNat).seen := if_pos h1
  rw[e1];refine y8 (by rw[decide_eq_false_iff_not];omega) (Wp.lett ?_);rw[decide_eq_false (show ¬z≥32 by omega),ej];obtain⟨f,rfl⟩:∃f:Nat,z=(f:Int):=⟨z.toNat,by omega⟩;have hf:f<32:=by omega
  rw[Int.toNat_natCast];have C:=K.cells f hf;have kr2:=K.row.tch t2 K.hrb (fun h=>nomatch h)
  have hrow:z2c h2 3 (.ptr rb (3*f))=some (ze1 (s.fs f).sure++[vs f]):=by
   rw[kr2.ld (by omega)]
   congr 1
   refine List.ext_getElem? fun i=>?_
   rcases i with _|_|_|i
   ·rw [List.getElem?_take_of_lt (by decide), List.getElem?_drop]
    exact C.c0
   ·rw [List.getElem?_take_of_lt (by decide), List.getElem?_drop]
    exact C.c1
   ·rw [List.getElem?_take_of_lt (by decide), List.getElem?_drop]
    exact C.c2
   ·rw[List.getElem?_eq_none (by rw[List.length_take];omega),List.getElem?_eq_none (by show 3≤_;omega)]
  have hseen:=(ho.ok f hf).1;refine y8 rfl (Wp.obind (zf _ _) (Wp.obind (z8 _ _ _) (Wp.obind (idxR hf) (Wp.obind hrow ?_))));have es:=seen_r (n:=n) (d:=d) (h:=h2) hn (ho.seen hf) hB ((K.rl f hf).tch t2 (fun _ _ h=>nomatch h));rw[←hseen] at es;exact Wp.callN es (Wp.obind (z40 _) (y18 M2 rfl rfl rfl fun h3 M3=>y1e M3 rfl (Wp.ret ⟨rfl,M3.tch⟩)))
 ·have e1 : z1e1 s z = ⟨false, []⟩ := if_neg h1
  rw[e1]
  have hj:Wp (j10 true h2) fun r h'=>r=.ret (.agg (ze1 ⟨false,[]⟩))∧Tch [] h h':=by
   rw[ej];exact y9 rfl (y18 M2 rfl rfl rfl fun h3 M3=>y1e M3 rfl (Wp.ret ⟨rfl,M3.tch⟩))
  by_cases h2:z<0
  ·exact y9 (by rw[decide_eq_true_eq];exact h2) hj
  ·refine y8 (by rw [decide_eq_false_iff_not]; exact h2) (Wp.lett ?_)
   rw[decide_eq_true (show z≥32 by omega)];exact hj
end
end Go.Proofs.Ytpnccmlajhhpdaa
namespace Go.Proofs.Ytpnccmlajhhpdaa.Abs
noncomputable section
open Go.RowKit
section
variable (P:Program)(w0:Base)(m0:Map)(N:Nat)(rd:Option Nat)(n:Nat)
def WR(c:Code)(Q:Exit→Act→World→Prop)(l:Fr)(ds:z8b)(h:AHeap):Prop:=Go w0 m0 N (c.wpIn (FW rd) n P Q) l ds h
def WLR(ops:Array Oper)(i:Nat)(Q:Exit→Act→World→Prop)(l:Fr)(ds:z8b)(h:AHeap):Prop:=Go w0 m0 N (wpListIn (FW rd) n P ops Q (ops.toList.drop i)) l ds h
def InLR(c:Code)(Q:Exit→Act→World→Prop)(act:Act)(w:World):Prop:=∀(b:Frame) (k:List Item) (cs:List Frame),b.roundOf=(FW rd).round→
 ∃e a' w',Q e a' w'∧ArrivesIn (Machine.fenced P (FW rd)) P (lone (b.atR act (.code c:: .inLoop c::k)) cs w) b k cs e a' w'
end
section
variable {P:Program}{w0:Base}{m0:Map}{N:Nat}{rd:Option Nat}{n:Nat}{l l':Fr}{ds:z8b}{h h':AHeap}{Q:Exit→Act→World→Prop}{K:Act→World→Prop}{both:z4a}
theorem WR.weaken{c:Code}(hs:l.sub l')(hk:WR P w0 m0 N rd n c Q l' ds h):WR P w0 m0 N rd n c Q l ds h:=Go.weaken hs hk
theorem WLR.weaken{ops:Array Oper}{i:Nat}(hs:l.sub l')(hk:WLR P w0 m0 N rd n ops i Q l' ds h):WLR P w0 m0 N rd n ops i Q l ds h:=Go.weaken hs hk
theorem WR.skip{c:Code}(hc:Code.kind c=0)(hk:Go w0 m0 N (Q .normal) l ds h):WR P w0 m0 N rd n c Q l ds h:=by
 cases c<;>first|(exact fun m act w he ha F=>wpIn_skip (hk m act w he ha F))|(simp[Code.kind] at hc;done)|(rename_i d;cases d<;>simp[Code.kind] at hc)
theorem WR.seq{c:Code}(hc:Code.kind c=1)(hk:WR P w0 m0 N rd n (y6 c) (Exit.then ((y5 c).wpIn (FW rd) n P Q) Q) l ds h):WR P w0 m0 N rd n c Q l ds h:=by
 cases c<;>first|(exact fun m act w he ha F=>wpIn_seq (hk m act w he ha F))|(simp[Code.kind] at hc;done)|(rename_i d;cases d<;>simp[Code.kind] at hc)
theorem WR.cond_true{c:Code}(hc:Code.kind c=2)(hv:l.eval (y24 c)=some (.bool true))(hk:WR P w0 m0 N rd n (y6 c) Q l ds h):WR P w0 m0 N rd n c Q l ds h:=by
 cases c<;>first|(exact fun m act w he ha F=>wpIn_cond_true (zb1 (z19d (a:=⟨l.tree,ds⟩) (fun t _=>ha.tmps t) _ (by rw[y10];exact hv))) (hk m act w he ha F))|(simp[Code.kind] at hc;done)|(rename_i d;cases d<;>simp[Code.kind] at hc)
theorem WR.cond_false{c:Code}(hc:Code.kind c=2)(hv:l.eval (y24 c)=some (.bool false))(hk:WR P w0 m0 N rd n (y5 c) Q l ds h):WR P w0 m0 N rd n c Q l ds h:=by
 cases c<;>first|(exact fun m act w he ha F=>wpIn_cond_false (zb1 (z19d (a:=⟨l.tree,ds⟩) (fun t _=>ha.tmps t) _ (by rw[y10];exact hv))) (hk m act w he ha F))|(simp[Code.kind] at hc;done)|(rename_i d;cases d<;>simp[Code.kind] at hc)
theorem WR.block{c:Code}(hc:Code.kind c=3)(hk:WR P w0 m0 N rd n (y6 c) (Exit.inBlock (Code.num c) Q) l ds h):WR P w0 m0 N rd n c Q l ds h:=by
 cases c<;>first|(exact fun m act w he ha F=>wpIn_block (hk m act w he ha F))|(simp[Code.kind] at hc;done)|(rename_i d;cases d<;>simp[Code.kind] at hc)
theorem WR.exit{c:Code}(hc:Code.kind c=5)(hk:Go w0 m0 N (Q (.exit (Code.num c))) l ds h):WR P w0 m0 N rd n c Q l ds h:=by
 cases c<;>first|(exact fun m act w he ha F=>wpIn_exit (hk m act w he ha F))|(simp[Code.kind] at hc;done)|(rename_i d;cases d<;>simp[Code.kind] at hc)
theorem WR.ret{c:Code}(hc:Code.kind c=6)(hk:Go w0 m0 N (Q .ret) l ds h):WR P w0 m0 N rd n c Q l ds h:=by
 cases c<;>first|(exact fun m act w he ha F=>wpIn_ret (hk m act w he ha F))|(simp[Code.kind] at hc;done)|(rename_i d;cases d<;>simp[Code.kind] at hc)
theorem InLR.round{c:Code}{act:Act}{w:World}(hk:c.wpIn (FW rd) n P (Exit.then (InLR P rd c Q) Q) act w):InLR P rd c Q act w:=by
 intro b k cs hro;have hb:(FW rd).fn b.fn:=trivial;have hr:(FW rd).room (cs.length+1+n):=room_wide _;obtain⟨e1,a1,w1,hq,harr⟩:=hk b (.inLoop c::k) cs hro hb hr
 cases e1 with
 |normal=>
  obtain⟨e3,a3,w3,hq3,harr3⟩:=hq b k cs hro;exact⟨e3,a3,w3,hq3,.of_steps (StepsIn.trans harr (.one (fenced_calm hb hr rfl) stepR_inLoop)) harr3⟩
 |exit id=>exact⟨_,a1,w1,hq,.pass (x:=.inLoop c) rfl (fun _ _=>.inl (by simp)) harr⟩
 |goto l=>exact⟨_,a1,w1,hq,.pass (x:=.inLoop c) rfl (fun _ _=>.inl (by simp)) harr⟩
 |ret=>exact⟨_,a1,w1,hq,.pass (x:=.inLoop c) rfl (fun _ _=>.inl (by simp)) harr⟩
 |panic ch=>exact⟨_,a1,w1,hq,.pass (x:=.inLoop c) rfl (fun _ _=>.inl (by simp)) harr⟩
 |outgrown=>exact⟨_,a1,w1,hq,.pass (x:=.inLoop c) rfl (fun _ _=>.inl (by simp)) harr⟩
theorem WR.loop{c:Code}(hc:Code.kind c=4)(hk:Go w0 m0 N (InLR P rd (y6 c) Q) l ds h):WR P w0 m0 N rd n c Q l ds h:=by
 obtain⟨x,rfl⟩:=z3bc hc;intro m act w he ha F b k cs hro hb hr;obtain⟨e,a',w',q,r⟩:=hk m act w he ha F b k cs hro;exact⟨e,a',w',q,.of_steps (.one (fenced_calm hb hr rfl) stepR_loop) r⟩
theorem Go.roundR{c:Code}(hk:WR P w0 m0 N rd n c (Exit.then (InLR P rd c Q) Q) l ds h):Go w0 m0 N (InLR P rd c Q) l ds h:=fun m act w he ha F=>InLR.round (n:=n) (hk m act w he ha F)
def z356:z4a:=fun _ _ _ _=>none
theorem z198:BothOK P w0 z356:=⟨(fun _ _ _ _ _ h=>nomatch h),(fun _ _ _ _ _ h=>nomatch h)⟩
def isDefer(o:Oper):Bool:=match o.op with
 | .defer _=>true
 |_=>false
def z44f(N:Nat)(ops:Array Oper)(i:Nat):Option (Option Nat):=match ops[i]? with
 |some o=>match z139 N o&& !isDefer o with
  |true=>some o.dst
  |false=>none
 |none=>none
theorem z2cb{ops:Array Oper}{i:Nat}{d:Option Nat}(hd:z44f N ops i=some d):∃o,ops[i]? =some o∧z139 N o=true∧(∀c,o.op≠ .defer c)∧o.dst=d:=by
 unfold z44f at hd
 split at hd
 ·rename_i o ho
  split at hd
  ·rename_i hk
   rw[Bool.and_eq_true] at hk;simp only[Option.some.injEq] at hd;refine⟨o,ho,hk.1,fun c e=>?_,hd⟩;have:=hk.2;unfold isDefer at this;rw[e] at this
   cases this
  ·cases hd
 ·cases hd
theorem z4a3(hc:BothOK P w0 both){ops:Array Oper}{o:Oper}{ol:List Oper}{a:AAct}{st:AStep}{m:Map}{act:Act}{H:AHeap}{w:World}(ha:RelAct m N a act)(F:Fits w0 m H w)(ho:z139 N o=true)(hnd:∀c,o.op≠ .defer c)(hst:z393 P both ops o a H=some st)(hgo:∀(a':AAct) (h':AHeap),st=.go a' h'→∀(m':Map) (act':Act) (w':World),Ext m m'→RelAct m' N a' act'→Fits w0 m' h' w'→wpListIn (FW rd) n P ops Q ol act' w')(hpn:∀(v:AV) (h':AHeap),st=.panic v h'→∀(m':Map) (w':World) (v':Value),Ext m m'→Fits w0 m' h' w'→Rel m' v v'→Q (.panic [{v:=v',recovered:=false}]) act w'):
  wpListIn (FW rd) n P ops Q (o::ol) act w:=by
 have hd':∀t,o.dst=some t→t<N:=by
  intro t ht;simp only[z139,ht] at ho;exact Nat.le_of_ble_eq_true ho
 rw[wpListIn];unfold z393 at hst
 split at hst
 ·rename_i hw
  rw[z178 (fun t _=>ha.tmps t) hw];simp only[if_true];cases hop:opA P a.eval o H with
  |none=>rw[hop] at hst;cases hst
  |some p=>
   obtain⟨nx,H1⟩:=p;rw[hop] at hst;refine⟨fun _ _=>trivial,?_⟩;rw[Oper.semAt_eq _ _ _ hnd];refine uponR_ok hc (z436 F o (fun x _ v hv=>z19d (fun t _=>ha.tmps t) v hv) hop) hst (fun a' h' e' m' w' v v' he F' hv ea=>?_) (fun v h' e' m' w' v' he F' hv=>?_)
   ·subst e' ea
    exact hgo _ _ rfl m' _ w' he ((ha.mono he.le).put1 hd' hv) F'
   ·subst e'
    exact hpn _ _ rfl m' w' v' he F' hv
 ·rename_i hw
  rw[z178 (fun t _=>ha.tmps t) hw];simp only[Bool.false_eq_true,if_false];simp only[z39,Option.some.injEq] at hst;subst hst;refine⟨fun _ _=>trivial,hgo _ _ rfl m _ w (Ext.refl m) (ha.put1 hd' (.tup .nil)) F⟩
 ·cases hst
theorem WR.region{c:Code}(hc:Code.kind c=7)(hk:WLR P w0 m0 N rd n (Code.ops c) 0 Q l ds h):WR P w0 m0 N rd n c Q l ds h:=by
 cases c with
 |region id ops d=>cases d with
  |false=>exact fun m act w he ha F=>wpIn_region_list (hk m act w he ha F)
  |true=>simp[Code.kind] at hc
 |_=>simp[Code.kind] at hc
theorem WLR.nil{ops:Array Oper}{i:Nat}(hi:Nat.beq ops.size i=true)(hk:Go w0 m0 N (Q .normal) l ds h):WLR P w0 m0 N rd n ops i Q l ds h:=by
 intro m act w he ha F
 have:ops.toList.drop i=[]:=by
  have:=Nat.eq_of_beq_eq_true hi
  simp[←this]
 rw[this];exact hk m act w he ha F
theorem WLR.step{ops:Array Oper}{i:Nat}{o:Oper}(ho:ops[i]? =some o)(hd:z139 N o=true)(hnd:∀c,o.op≠ .defer c)(hc:BothOK P w0 both){d:Option Nat}{v:AV}{ds':z8b}(hst:z393 P both ops o ⟨l.tree,ds⟩ h=some (.go ⟨(l.put d v).tree,ds'⟩ h'))(hk:WLR P w0 m0 N rd n ops (i+1) Q (l.put d v) ds' h'):WLR P w0 m0 N rd n ops i Q l ds h:=by
 intro m act w he ha F
 have hl:i<ops.toList.length:=by
  rcases Array.getElem?_eq_some_iff.1 ho with⟨h1,_⟩
  simpa using h1
 have hdrop:ops.toList.drop i=o::ops.toList.drop (i+1):=by
  rw[List.drop_eq_getElem_cons hl]
  congr 1
  rcases Array.getElem?_eq_some_iff.1 ho with⟨h1,h2⟩
  simpa using h2
 rw[hdrop];refine z4a3 hc ha F hd hnd hst (fun a' h2 e m' act' w' he' ha' F'=>?_) (fun v h2 e=>by cases e);simp only[AStep.go.injEq] at e;obtain⟨rfl,rfl⟩:=e;exact hk m' act' w' (he.trans he') ha' F'
theorem WLR.val{ops:Array Oper}{i:Nat}{d:Option Nat}{v:AV}(hd:z44f N ops i=some d)(hw:z1d ops l.get i=some true)(hop:zd1 P l.eval ops i h=some (.val v,h'))(hk:WLR P w0 m0 N rd n ops (i+1) Q (l.put d v) ds h'):WLR P w0 m0 N rd n ops i Q l ds h:=by
 obtain⟨o,ho,hok,hnd,rfl⟩:=z2cb hd;refine WLR.step (v:=v) (d:=o.dst) (ds':=ds) ho hok hnd z198 ?_ hk;have hw:z41 ops l.get o.guard=some true:=by simpa [z1d,ho] using hw
 have hop:opA P l.eval o h=some (.val v,h'):=by simpa [zd1,ho] using hop
 simp only[z393,yf,hw,y10,hop,z18e,z39,y14]
theorem WLR.eff{ops:Array Oper}{i:Nat}(hd:z44f N ops i=some none)(hw:z1d ops l.get i=some true)(hop:zd1 P l.eval ops i h=some (.skip,h'))(hk:WLR P w0 m0 N rd n ops (i+1) Q l ds h'):WLR P w0 m0 N rd n ops i Q l ds h:=by
 obtain⟨o,ho,hok,hnd,hdn⟩:=z2cb hd;refine WLR.step (v:=.tup []) (d:=none) (ds':=ds) ho hok hnd z198 ?_ hk;have hw:z41 ops l.get o.guard=some true:=by simpa [z1d,ho] using hw
 have hop:opA P l.eval o h=some (.skip,h'):=by simpa [zd1,ho] using hop
 simp only[z393,yf,hw,y10,hop,z18e,z39,y14,hdn]
theorem WLR.not{ops:Array Oper}{i:Nat}{d:Option Nat}(hd:z44f N ops i=some d)(hw:z1d ops l.get i=some false)(hk:WLR P w0 m0 N rd n ops (i+1) Q (l.put d (.tup [])) ds h):WLR P w0 m0 N rd n ops i Q l ds h:=by
 obtain⟨o,ho,hok,hnd,rfl⟩:=z2cb hd;refine WLR.step (v:=.tup []) (d:=o.dst) (ds':=ds) ho hok hnd z198 ?_ hk;have hw:z41 ops l.get o.guard=some false:=by simpa [z1d,ho] using hw
 simp only[z393,yf,hw,z39,y14]
theorem y41(hc:BothOK P w0 both){ops:Array Oper}{i:Nat}{d:Option Nat}{f:FuncId}{args:List AV}{v:AV}{h1:AHeap}(hd:z44f N ops i=some d)(hw:z1d ops l.get i=some true)(hop:zd1 P l.eval ops i h=some (.call f args,h1))(hcall:both false f args h1=some (.ret v,h'))(hk:WLR P w0 m0 N rd n ops (i+1) Q (l.put d v) ds h'):WLR P w0 m0 N rd n ops i Q l ds h:=by
 obtain⟨o,ho,hok,hnd,rfl⟩:=z2cb hd;refine WLR.step (v:=v) (d:=o.dst) (ds':=ds) ho hok hnd hc ?_ hk;have hw:z41 ops l.get o.guard=some true:=by simpa [z1d,ho] using hw
 have hop:opA P l.eval o h=some (.call f args,h1):=by simpa [zd1,ho] using hop
 simp only[z393,yf,hw,y10,hop,z18e,hcall,z155,z39,y14]
def noRnd:Nat→List AV→AHeap→Option (ARes×AHeap):=fun _ _ _=>none
def mkBoth(call:z10)(rnd:Nat→List AV→AHeap→Option (ARes×AHeap)):z4a:=fun k f args h=>match k with
 |false=>call f args h
 |true=>rnd f args h
theorem z3da{call:z10}(hc:ze2 P w0 call):BothOK P w0 (mkBoth call noRnd):=⟨hc,(fun _ _ _ _ _ h=>nomatch h)⟩
theorem WLR.call{call:z10}(hc:ze2 P w0 call){ops:Array Oper}{i:Nat}{d:Option Nat}{f:FuncId}{args:List AV}{v:AV}{h1:AHeap}(hd:z44f N ops i=some d)(hw:z1d ops l.get i=some true)(hop:zd1 P l.eval ops i h=some (.call f args,h1))(hcall:call f args h1=some (.ret v,h'))(hk:WLR P w0 m0 N rd n ops (i+1) Q (l.put d v) ds h'):WLR P w0 m0 N rd n ops i Q l ds h:=y41 (z3da hc) hd hw hop hcall hk
theorem WLR.round(hc:BothOK P w0 both){ops:Array Oper}{i:Nat}{d:Option Nat}{b:Nat}{args:List AV}{v:AV}{h1:AHeap}(hd:z44f N ops i=some d)(hw:z1d ops l.get i=some true)(hop:zd1 P l.eval ops i h=some (.round b args,h1))(hcall:both true b args h1=some (.ret v,h'))(hk:WLR P w0 m0 N rd n ops (i+1) Q (l.put d v) ds h'):WLR P w0 m0 N rd n ops i Q l ds h:=by
 obtain⟨o,ho,hok,hnd,rfl⟩:=z2cb hd;refine WLR.step (v:=v) (d:=o.dst) (ds':=ds) ho hok hnd hc ?_ hk;have hw:z41 ops l.get o.guard=some true:=by simpa [z1d,ho] using hw
 have hop:opA P l.eval o h=some (.round b args,h1):=by simpa [zd1,ho] using hop
 simp only[z393,yf,hw,y10,hop,z18e,hcall,z155,z39,y14]
theorem WR.draw(hm:P.follows .mixedOrders=true){call:z10}(hc:ze2 P w0 call){c:Code}{plan:List Nat}(hk:Code.kind c=8)(hok:(z3fb N (Code.ops c).toList&&z358 (Code.ops c))=true)(hp:z2ab P (Code.ops c)=some plan)(hd:WD P w0 m0 N call (Code.ops c) plan [] (Q .normal) l ds h):WR P w0 m0 N rd n c Q l ds h:=by
 rw[Bool.and_eq_true] at hok
 cases c with
 |region id ops d=>cases d with
  |true=>
   intro m act w he ha F;obtain⟨l',h',hgo,hq⟩:=hd
   have hdraw:z374 P call ops ⟨l.tree,ds⟩ h=some (.normal,⟨l'.tree,ds⟩,h'):=by
    unfold z374;have hp:z2ab P ops=some plan:=hp;rw[hp];exact hgo
   refine wpIn_mono (wpIn_region_any hm (z45f hok.2 z475 _ _ _ _ (draw_any hc (z3b3 _ hok.1) ha F hdraw))) ?_
   rintro e' act2 w2 ⟨m2,hx,ha2,F2,hex⟩
   cases hex;exact hq m2 act2 w2 (he.trans hx) ha2 F2
  |false=>simp[Code.kind] at hk
 |_=>simp[Code.kind] at hk
theorem WR.range(hc:BothOK P w0 both){f:Operand}{ps:Array Tmp}{x y:Code}{e:AExit}{l':Fr}{ds':z8b}(hr:z1a4 P both none N (l.eval f) ps x y ⟨l.tree,ds⟩ h=some (e,⟨l'.tree,ds'⟩,h'))(hq:∀(m:Map) (act:Act) (w:World) (e':Exit),Ext m0 m→RelExit m e e'→RelAct m N ⟨l'.tree,ds'⟩ act→Fits w0 m h' w→Q e' act w):WR P w0 m0 N none n (.rangeFunc f ps x y) Q l ds h:=by
 intro m act w he ha F;have hev:(⟨l.tree,ds⟩:AAct).eval f=l.eval f:=by rw[y10]
 refine wpIn_mono (rangeR_ok (rb:=none) (f:=f) hc ⟨l.tree,ds⟩ h e _ h' (by
  show z1a4 P both none N ((⟨l.tree,ds⟩:AAct).eval f) ps x y ⟨l.tree,ds⟩ h=_;rw[hev];exact hr) none n m act w trivial ha F) ?_
 rintro e' act2 w2 ⟨m2,hx,ha2,F2,hex⟩
 exact hq m2 act2 w2 e' (he.trans hx) hex ha2 F2
end
def BothAll(P:Program)(both:z4a):Prop:=∀w0,BothOK P w0 both
theorem BothAll.says{P:Program}{both:z4a}(h:BothAll P both):SaysAll P (both false):=SaysAll.of fun w0=>(h w0).call
theorem BothAll.none{P:Program}:BothAll P z356:=fun _=>z198
theorem mkBoth_ok{P:Program}{call:z10}{rnd:Nat→List AV→AHeap→Option (ARes×AHeap)}(hc:SaysAll P call)(hr:∀w0,z2de P w0 rnd):BothAll P (mkBoth call rnd):=fun w0=>⟨hc.ok w0,hr w0⟩
def z425(cf:z4a→z10)(rf:z4a→Nat→List AV→AHeap→Option (ARes×AHeap)):Nat→z4a
 |0=>z356
 |d+1=>mkBoth (cf (z425 cf rf d)) (rf (z425 cf rf d))
theorem z291{P:Program}{cf:z4a→z10}{rf:z4a→Nat→List AV→AHeap→Option (ARes×AHeap)}(hc:∀both,BothAll P both→SaysAll P (cf both))(hr:∀both,BothAll P both→∀w0,z2de P w0 (rf both)):∀d,BothAll P (z425 cf rf d)
 |0=>BothAll.none
 |d+1=>mkBoth_ok (hc _ (z291 hc hr d)) (hr _ (z291 hc hr d))
section
variable {P:Program}{w0:Base}{m0:Map}{N:Nat}{rd:Option Nat}{n:Nat}{l l':Fr}{ds:z8b}{h h':AHeap}{Q:Exit→Act→World→Prop}{K:Act→World→Prop}{both:z4a}{r:ARes}
abbrev FinM(P:Program)(fn:Func)(w0:Base)(m0:Map)(r:ARes)(h':AHeap):Exit→Act→World→Prop:=bodyPostM Fence.wide 0 P fn (RetOK w0 m0 h' r)
theorem Go.leaveM{fn:Func}(hr:z222 P fn ⟨l.tree,ds⟩ ds h=some (r,h')):Go w0 m0 N (FinM P fn w0 m0 r h' .ret) l ds h:=fun m _ w he ha F=>
 LeavesInM.mono (fun _ _ hh=>hh.ext he) _ _ _ (z478 _ _ hr m _ ha.defers) (marksR_ok _ h hr m _ w ha.tmps ha.defers F)
theorem z42e{f:FuncId}{fn:Func}{args:List AV}(hf:P.funcs[f]? =some fn){c:Code}(hb:fn.body=some c)(hlen:Nat.ble args.length fn.ntmps=true)(hw:∀w0 m0,WR P w0 m0 fn.ntmps none 0 c (FinM P fn w0 m0 r h') (z1e8 0 args) [] h):Says P f args h r h':=by
 intro w0 m w args' ha F;have hlen:=Nat.le_of_ble_eq_true hlen;have hl:=ha.length
 have hra : RelAct m fn.ntmps ⟨(z1e8 0 args).tree, []⟩ { tmps := (⟨args'⟩ : Array Value) ++ Array.replicate (fn.ntmps - (⟨args'⟩ : Array Value).size) undef, defers := [] } := {
  size := by simp; omega
  tmps := fun t v hv => by
   have hv : (z1e8 0 args).tree.get t = some v := hv;rw [Fr.get_tree] at hv
   obtain ⟨_, hv⟩ := z262 _ _ _ _ hv
   rw [Nat.sub_zero] at hv
   obtain ⟨y, hy, hr⟩ := ha.get t v hv
   have ht : t < args'.length := (List.getElem?_eq_some_iff.1 hy).1;refine ⟨y, ?_, hr⟩
   simp only
   rw [Array.getElem?_append_left (by simpa using ht)]
   simpa using hy
  defers := .nil }
 exact callsIn_wide.1 (callsIn_of_wp_marks (n:=0) hf hb trivial (hw w0 m m _ w (Ext.refl m) hra F))
theorem y3e{m:Map}{act:Act}{t:T AV}(hs:∀i v,l.get i=some v→t.get i=some v)(hr:RelAct m N ⟨t,ds⟩ act):RelAct m N ⟨l.tree,ds⟩ act where
 size:=hr.size
 tmps i:=fun v hv=>hr.tmps i v (by
  have hv:l.tree.get i=some v:=hv;rw[Fr.get_tree] at hv;exact hs i v hv)
 defers:=hr.defers
theorem z329{c:Code}{f:AAct→AHeap→z82}(hf:∀(t:T AV) (ds:z8b) (h:AHeap) (e:AExit) (a':AAct) (h':AHeap),f ⟨t,ds⟩ h=some (e,a',h')→∃l:Fr,(∀i v,l.get i=some v→t.get i=some v)∧∀rd n m0,WR P w0 m0 N rd n c (fun e' act w=>z494 w0 m0 N e a' h' e' act w) l ds h)(rb:Option Nat):z204 P w0 N rb f c:=by
 intro a h e a' h' hr rd n m act w hrb ha F;obtain⟨l,hl,hk⟩:=hf a.tmps a.defers h e a' h' hr;exact hk rd n m m act w (Ext.refl m) (y3e hl ha) F
end
end
noncomputable section
open Go.RowKit
section
variable {P:Program}{w0:Base}{m0:Map}{N:Nat}{rd:Option Nat}{nR:Nat}{l l':Fr}{ds:z8b}{h h':AHeap}{Q:Exit→Act→World→Prop}{K:Act→World→Prop}{Y:z8a}{ops:Array Oper}{i:Nat}
theorem WR.seqK{c:Code}(hc:Code.kind c=1)(hk:∀K:Exit→Act→World→Prop,(∀{ds:z8b} {l:Fr} {h:AHeap},WR P w0 m0 N rd nR (y5 c) Q l ds h→Go w0 m0 N (K .normal) l ds h)→
  (∀{id:Nat} {ds:z8b} {l:Fr} {h:AHeap},Go w0 m0 N (Q (.exit id)) l ds h→Go w0 m0 N (K (.exit id)) l ds h)→(∀{ds:z8b} {l:Fr} {h:AHeap},Go w0 m0 N (Q .ret) l ds h→Go w0 m0 N (K .ret) l ds h)→
  (∀{ds:z8b} {l:Fr} {v:AV} {h:AHeap},Pan w0 m0 N Q l ds v h→Pan w0 m0 N K l ds v h)→WR P w0 m0 N rd nR (y6 c) K l ds h):WR P w0 m0 N rd nR c Q l ds h:=
 WR.seq hc (hk _ (fun h=>h) (fun h=>h) (fun h=>h) (fun h=>h))
theorem WR.blockK{c:Code}(hc:Code.kind c=3)(hk:∀K:Exit→Act→World→Prop,(∀{ds:z8b} {l:Fr} {h:AHeap},Go w0 m0 N (Q .normal) l ds h→Go w0 m0 N (K .normal) l ds h)→
  (∀{id:Nat} {ds:z8b} {l:Fr} {h:AHeap},Nat.beq id (Code.num c)=true→Go w0 m0 N (Q .normal) l ds h→Go w0 m0 N (K (.exit id)) l ds h)→
  (∀{id:Nat} {ds:z8b} {l:Fr} {h:AHeap},Nat.beq id (Code.num c)=false→Go w0 m0 N (Q (.exit id)) l ds h→Go w0 m0 N (K (.exit id)) l ds h)→(∀{ds:z8b} {l:Fr} {h:AHeap},Go w0 m0 N (Q .ret) l ds h→Go w0 m0 N (K .ret) l ds h)→
  (∀{ds:z8b} {l:Fr} {v:AV} {h:AHeap},Pan w0 m0 N Q l ds v h→Pan w0 m0 N K l ds v h)→WR P w0 m0 N rd nR (y6 c) K l ds h):WR P w0 m0 N rd nR c Q l ds h:=
 WR.block hc (hk _ (fun h=>h) (fun e h=>Go.bS e h) (fun e h=>Go.bO e h) (fun h=>h) (fun h=>h))
theorem WR.loopK{c:Code}(hc:Code.kind c=4)(hk:∀(I:Act→World→Prop) (K:Exit→Act→World→Prop),(∀{ds:z8b} {l:Fr} {h:AHeap},WR P w0 m0 N rd nR (y6 c) K l ds h→Go w0 m0 N I l ds h)→
  (∀{ds:z8b} {l:Fr} {h:AHeap},Go w0 m0 N I l ds h→Go w0 m0 N (K .normal) l ds h)→(∀{id:Nat} {ds:z8b} {l:Fr} {h:AHeap},Go w0 m0 N (Q (.exit id)) l ds h→Go w0 m0 N (K (.exit id)) l ds h)→
  (∀{ds:z8b} {l:Fr} {h:AHeap},Go w0 m0 N (Q .ret) l ds h→Go w0 m0 N (K .ret) l ds h)→(∀{ds:z8b} {l:Fr} {v:AV} {h:AHeap},Pan w0 m0 N Q l ds v h→Pan w0 m0 N K l ds v h)→
  Go w0 m0 N I l ds h):WR P w0 m0 N rd nR c Q l ds h:=
 WR.loop hc (hk _ _ (fun h=>Go.roundR h) (fun h=>h) (fun h=>h) (fun h=>h) (fun h=>h))
end
section
variable {P:Program}{w0:Base}{m0:Map}{N:Nat}{rd:Option Nat}{nR:Nat}{l l':Fr}{ds:z8b}{h:AHeap}{Q:Exit→Act→World→Prop}{K:Act→World→Prop}{Y:z8a}{ops:Array Oper}{i:Nat}
theorem WLR.a(d:Option Nat)(v:AV)(h':AHeap)(hk:WLR P w0 m0 N rd nR ops (i+1) Q (l.put d v) ds h')(h1:z44f N ops i=some d:=by kernel_rfl)(h2:z1d ops l.get i=some true:=by kernel_rfl)(h3:zd1 P l.eval ops i h=some (.val v,h'):=by kernel_rfl):WLR P w0 m0 N rd nR ops i Q l ds h:=WLR.val h1 h2 h3 hk
theorem WLR.b(d:Option Nat)(v:AV)(h':AHeap)(x:Y=some (.val v,h'))(hk:WLR P w0 m0 N rd nR ops (i+1) Q (l.put d v) ds h')(h1:z44f N ops i=some d:=by kernel_rfl)(h2:z1d ops l.get i=some true:=by kernel_rfl)(h3:zd1 P l.eval ops i h=Y:=by kernel_rfl):WLR P w0 m0 N rd nR ops i Q l ds h:=WLR.val h1 h2 (h3.trans x) hk
theorem WLR.e(h':AHeap)(x:Y=some (.skip,h'))(hk:WLR P w0 m0 N rd nR ops (i+1) Q l ds h')(h1:z44f N ops i=some none:=by kernel_rfl)(h2:z1d ops l.get i=some true:=by kernel_rfl)(h3:zd1 P l.eval ops i h=Y:=by kernel_rfl):WLR P w0 m0 N rd nR ops i Q l ds h:=WLR.eff h1 h2 (h3.trans x) hk
theorem WLR.o(d:Option Nat)(hk:WLR P w0 m0 N rd nR ops (i+1) Q (l.put d (.tup [])) ds h)(h1:z44f N ops i=some d:=by kernel_rfl)(h2:z1d ops l.get i=some false:=by kernel_rfl):WLR P w0 m0 N rd nR ops i Q l ds h:=WLR.not h1 h2 hk
theorem WLR.c{call:z10}(hc:ze2 P w0 call)(d:Option Nat){f:FuncId}{args:List AV}{v:AV}{h1 h':AHeap}(hcall:call f args h1=some (.ret v,h'))(hk:WLR P w0 m0 N rd nR ops (i+1) Q (l.put d v) ds h')(h2:z44f N ops i=some d:=by kernel_rfl)(h3:z1d ops l.get i=some true:=by kernel_rfl)(h4:zd1 P l.eval ops i h=some (.call f args,h1):=by kernel_rfl):WLR P w0 m0 N rd nR ops i Q l ds h:=WLR.call hc h2 h3 h4 hcall hk
theorem WLR.n(hk:Go w0 m0 N (Q .normal) l ds h)(hi:Nat.beq ops.size i=true:=by kernel_rfl):WLR P w0 m0 N rd nR ops i Q l ds h:=WLR.nil hi hk
theorem WR.r{c:Code}(hk:WLR P w0 m0 N rd nR (Code.ops c) 0 Q l ds h)(hc:Code.kind c=7:=by kernel_rfl):WR P w0 m0 N rd nR c Q l ds h:=WR.region hc hk
theorem WR.s{c:Code}(hk:∀K:Exit→Act→World→Prop,(∀{ds:z8b} {l:Fr} {h:AHeap},WR P w0 m0 N rd nR (y5 c) Q l ds h→Go w0 m0 N (K .normal) l ds h)→
  (∀{id:Nat} {ds:z8b} {l:Fr} {h:AHeap},Go w0 m0 N (Q (.exit id)) l ds h→Go w0 m0 N (K (.exit id)) l ds h)→(∀{ds:z8b} {l:Fr} {h:AHeap},Go w0 m0 N (Q .ret) l ds h→Go w0 m0 N (K .ret) l ds h)→
  (∀{ds:z8b} {l:Fr} {v:AV} {h:AHeap},Pan w0 m0 N Q l ds v h→Pan w0 m0 N K l ds v h)→WR P w0 m0 N rd nR (y6 c) K l ds h)(hc:Code.kind c=1:=by kernel_rfl):WR P w0 m0 N rd nR c Q l ds h:=WR.seqK hc hk
theorem WR.t{c:Code}(hk:WR P w0 m0 N rd nR (y6 c) Q l ds h)(hc:Code.kind c=2:=by kernel_rfl)(hv:l.eval (y24 c)=some (.bool true):=by kernel_rfl):WR P w0 m0 N rd nR c Q l ds h:=WR.cond_true hc hv hk
theorem WR.f{c:Code}(hk:WR P w0 m0 N rd nR (y5 c) Q l ds h)(hc:Code.kind c=2:=by kernel_rfl)(hv:l.eval (y24 c)=some (.bool false):=by kernel_rfl):WR P w0 m0 N rd nR c Q l ds h:=WR.cond_false hc hv hk
end
end
noncomputable section
open Go.RowKit
def isRng:Code→Bool
 | .rangeFunc _ _ _ _=>true
 |_=>false
def Code.rgo:Code→Operand
 | .rangeFunc f _ _ _=>f
 |_=>.tmp 0
def y1a:Code→Array Tmp
 | .rangeFunc _ ps _ _=>ps
 |_=> #[]
def y20:Code→Code
 | .rangeFunc _ _ x _=>x
 |_=>.skip
def y1d:Code→Code
 | .rangeFunc _ _ _ y=>y
 |_=>.skip
abbrev dmark(D:Nat):FuncId×List AV×List AV:=(0,[],[.mrk D])
def rngX(P:Program)(both:z4a)(N:Nat)(v:AV)(c:Code)(t:T AV)(ds:z8b)(h:AHeap):z82:=z1a4 P both none N (some v) (y1a c) (y20 c) (y1d c) ⟨t,ds⟩ h
def rngK(x:z82)(kn kr:AHeap→R)(ke:Nat→AHeap→R):R:=match x with
 |some (.normal,_,h)=>kn h
 |some (.ret,_,h)=>kr h
 |some (.exit id,_,h)=>ke id h
 |_=>none
theorem z4af{P:Program}{both:z4a}{N:Nat}{f:Option AV}{ps:Array Tmp}{x y:Code}{t:T AV}{ds:z8b}{h h':AHeap}{e:AExit}{a':AAct}(hr:z1a4 P both none N f ps x y ⟨t,ds⟩ h=some (e,a',h')):a'=⟨t,dmark h.next::ds⟩:=by
 unfold z1a4 at hr
 split at hr
 ·split at hr
  ·simp only [z31f] at hr
   unfold endR at hr
   split at hr
   ·split at hr
    ·split at hr
     ·cases hr
     ·split at hr<;> ·simp only[Option.some.injEq,Prod.mk.injEq] at hr;exact hr.2.1.symm
    ·cases hr
   ·cases hr
  ·cases hr
 ·cases hr
section
variable {P:Program}{w0:Base}{m0:Map}{N:Nat}{n:Nat}{l l':Fr}{ds:z8b}{h:AHeap}{Q:Exit→Act→World→Prop}{both:z4a}{r:ARes×AHeap}{kn kr:AHeap→R}{ke:Nat→AHeap→R}{v:AV}
theorem WR.rng(hc:BothAll P both){c:Code}(z:rngK (rngX P both N v c l.tree ds h) kn kr ke=some r)(hn:∀h',kn h'=some r→Go w0 m0 N (Q .normal) l (dmark h.next::ds) h')(hr:∀h',kr h'=some r→Go w0 m0 N (Q .ret) l (dmark h.next::ds) h')(he:∀id h',ke id h'=some r→Go w0 m0 N (Q (.exit id)) l (dmark h.next::ds) h')(hk:isRng c=true:=by kernel_rfl)(hv:l.eval (Code.rgo c)=some v:=by kernel_rfl):WR P w0 m0 N none n c Q l ds h:=by
 cases c with
 |rangeFunc f ps x y=>
  have hv:l.eval f=some v:=hv;unfold rngK rngX at z;have hx:z1a4 P both none N (some v) (y1a (.rangeFunc f ps x y)) (y20 (.rangeFunc f ps x y)) (y1d (.rangeFunc f ps x y)) ⟨l.tree,ds⟩ h=z1a4 P both none N (l.eval f) ps x y ⟨l.tree,ds⟩ h:=by rw[hv];rfl
  rw[hx] at z;cases hr2:z1a4 P both none N (l.eval f) ps x y ⟨l.tree,ds⟩ h with
  |none=>rw[hr2] at z;cases z
  |some p=>
   obtain⟨e,a',h'⟩:=p;have ha:=z4af hr2;subst ha;rw[hr2] at z;refine WR.range (l':=l) (hc w0) hr2 fun m act w e' hx hex ha F=>?_;cases hex with
   |normal=>exact hn h' z m act w hx ha F
   |ret=>exact hr h' z m act w hx ha F
   |exit id=>exact he id h' z m act w hx ha F
   |goto l=>cases z
   |panic hv=>cases z
 |_=>cases hk
def z26a:z8b→AHeap→Option AHeap
 |[],h=>some h
 |(0,[],[.mrk D])::ds,h=>match h.get D with
  |some (.obj .dfr)=>z26a ds (h.put D (.obj .shut))
  |_=>none
 |_,_=>none
def z269(ds:z8b)(h:AHeap)(k:AHeap→R):R:=match z26a ds h with
 |some h'=>k h'
 |none=>none
theorem z43d{fn:Func}{a:AAct}:∀(ds:z8b) (h h':AHeap),z26a ds h=some h'→z222 P fn a ds h=z3a6 h' (z159 P a h' fn.results.toList)
 |[],h,h',e=>by
  simp only[z26a,Option.some.injEq] at e;subst e;rfl
 |d::ds,h,h',e=>by
  unfold z26a at e
  split at e
  ·rename_i e'
   cases e'
  ·rename_i D ds2 _ e'
   simp only[List.cons.injEq] at e';obtain⟨rfl,rfl⟩:=e'
   split at e
   ·rename_i hb
    have ih:=z43d (fn:=fn) (a:=a) _ _ _ e;simp only[z222,hb];exact ih
   ·cases e
  ·cases e
theorem y44{fn:Func}{rR:ARes}{hR:AHeap}{k:AHeap→R}(z:z269 ds h k=some (rR,hR))(hk:∀h',k h'=some (rR,hR)→z3a6 h' (z119 P l.get h' fn.results.toList)=some (rR,hR)):Go w0 m0 N (FinM P fn w0 m0 rR hR .ret) l ds h:=by
 unfold z269 at z
 split at z
 ·rename_i h' hm
  refine Go.leaveM ?_;rw[z43d _ _ _ hm];have:=hk h' z;rw[←z342];show z3a6 h' (z119 P l.tree.get h' _)=_;rw[yf];exact this
 ·cases z
end
theorem ret_of{P:Program}{g:Nat→Option AV}{h:AHeap}{fn:Func}{rs:List ResultVar}{vs:List AV}{v:AV}(hrs:fn.results.toList=rs)(hv:z119 P g h rs=some vs)(hr:z3a6 h (some vs)=some (.ret v,h)):z3a6 h (z119 P g h fn.results.toList)=some (.ret v,h):=by
 rw[hrs,hv];exact hr
def dynB(P:Program)(both:z4a)(f:AV)(args:List AV)(h:AHeap):R:=match callV P h args (some f) with
 |some (.call g xs,h1)=>both false g xs h1
 |some (.round b xs,h1)=>both true b xs h1
 |some (.val v,h1)=>some (.ret v,h1)
 |_=>none
section
variable {P:Program}{w0:Base}{m0:Map}{N:Nat}{rd:Option Nat}{n:Nat}{l:Fr}{ds:z8b}{h h':AHeap}{Q:Exit→Act→World→Prop}{both:z4a}
theorem WLR.dyn(hc:BothAll P both){ops:Array Oper}{i:Nat}{d:Option Nat}{f v:AV}{args:List AV}(hcall:dynB P both f args h=some (.ret v,h'))(hk:WLR P w0 m0 N rd n ops (i+1) Q (l.put d v) ds h')(hd:z44f N ops i=some d:=by kernel_rfl)(hw:z1d ops l.get i=some true:=by kernel_rfl)(hop:zd1 P l.eval ops i h=callV P h args (some f):=by kernel_rfl):WLR P w0 m0 N rd n ops i Q l ds h:=by
 unfold dynB at hcall
 split at hcall
 ·rename_i g xs h1 e
  exact y41 (hc w0) hd hw (hop.trans e) hcall hk
 ·rename_i b xs h1 e
  exact WLR.round (hc w0) hd hw (hop.trans e) hcall hk
 ·rename_i v1 h1 e
  cases hcall;exact WLR.val hd hw (hop.trans e) hk
 ·cases hcall
end
def decE:ARes→AExit
 | .ret (.int _ z)=>match z with
  |0=>.normal
  |1=>.ret
  |z=>.exit (z - 2).toNat
 |_=>.normal
def tupFr(ts:List Nat):ARes→Fr
 | .ret (.tup vs)=>ts.zip vs
 |_=>[]
section
variable {P:Program}{w0:Base}{m0:Map}{N:Nat}{l l':Fr}{ds:z8b}{h:AHeap}
theorem y46(hs:l.sub l'):Go w0 m0 N (z494 w0 m0 N .normal ⟨l'.tree,ds⟩ h .normal) l ds h:=fun m _ _ he ha F=>⟨m,he,ha.weaken hs,F,.normal⟩
end
section
variable {P:Program}{both:z4a}{N:Nat}{c:Code}{t:T AV}{ds:z8b}{h h2:AHeap}{kn kr:AHeap→R}{ke:Nat→AHeap→R}{Q:ARes→AHeap→Prop}{g:FuncId}{first cap:List AV}{v:AV}{q:ALoop}
def z496(N:Nat)(c:Code)(t:T AV)(h:AHeap):AHeap:=(h.new (.obj .dfr)).new (.obj (.loop ⟨.ready,.none,t,N,y1a c,y20 c,y1d c,h.next⟩))
theorem z3f4(hb:z164 P g=true)(e:both false g (first++[.yld (h.next+1)]++cap) (z496 N c t h)=some (.ret v,h2))(hq:h2.get (h.next+1)=some (.obj (.loop q)))(hs:q.st≠ .busy):
  rngX P both N (.fn g first cap) c t ds h=(match q.pend with
   | .none=>some (.normal,⟨t,dmark h.next::ds⟩,h2.put (h.next+1) (.obj (.loop {q with st:=.exhausted})))
   | .ret=>some (.ret,⟨t,dmark h.next::ds⟩,h2.put (h.next+1) (.obj (.loop {q with st:=.exhausted})))
   | .exit id=>some (.exit id,⟨t,dmark h.next::ds⟩,h2.put (h.next+1) (.obj (.loop {q with st:=.exhausted})))):=by
 unfold rngX z1a4;simp only[hb,z31f];unfold z496 at e;rw[e];unfold endR;simp only[hq];cases hst:q.st with
 |busy=>exact absurd hst hs
 |_=>rfl
theorem Wp.rngN(hb:z164 P g=true)(e:both false g (first++[.yld (h.next+1)]++cap) (z496 N c t h)=some (.ret v,h2))(hq:h2.get (h.next+1)=some (.obj (.loop q)))(hs:q.st≠ .busy)(hp:q.pend=.none)(hk:Wp (kn (h2.put (h.next+1) (.obj (.loop {q with st:=.exhausted})))) Q):Wp (rngK (rngX P both N (.fn g first cap) c t ds h) kn kr ke) Q:=by
 rw[z3f4 hb e hq hs];rw[hp] at hk ⊢;exact hk
theorem Wp.rngR(hb:z164 P g=true)(e:both false g (first++[.yld (h.next+1)]++cap) (z496 N c t h)=some (.ret v,h2))(hq:h2.get (h.next+1)=some (.obj (.loop q)))(hs:q.st≠ .busy)(hp:q.pend=.ret)(hk:Wp (kr (h2.put (h.next+1) (.obj (.loop {q with st:=.exhausted})))) Q):Wp (rngK (rngX P both N (.fn g first cap) c t ds h) kn kr ke) Q:=by
 rw[z3f4 hb e hq hs];rw[hp] at hk ⊢;exact hk
theorem Wp.rngE{id:Nat}(hb:z164 P g=true)(e:both false g (first++[.yld (h.next+1)]++cap) (z496 N c t h)=some (.ret v,h2))(hq:h2.get (h.next+1)=some (.obj (.loop q)))(hs:q.st≠ .busy)(hp:q.pend=.exit id)(hk:Wp (ke id (h2.put (h.next+1) (.obj (.loop {q with st:=.exhausted})))) Q):Wp (rngK (rngX P both N (.fn g first cap) c t ds h) kn kr ke) Q:=by
 rw[z3f4 hb e hq hs];rw[hp] at hk ⊢;exact hk
end
end
noncomputable section
open Go.RowKit
structure Site where
 N:Nat
 code:Code
 run:z4a→AAct→AHeap→z82
open Classical in
def Site.ok(P:Program)(s:Site):Prop:=∀both,BothAll P both→∀w0 rb,z204 P w0 s.N rb (s.run both) s.code
open Classical in
def decA(ts:List Nat)(ds:z8b):R→z82
 |some (r,h)=>some (.normal,⟨Fr.tree (tupFr ts r),ds⟩,h)
 |none=>none
def decB(ds:z8b):R→z82
 |some (r,h)=>some (decE r,⟨Fr.tree [],ds⟩,h)
 |none=>none
theorem decA_some{ts:List Nat}{ds:z8b}{x:R}{e:AExit}{a':AAct}{h':AHeap}(z:decA ts ds x=some (e,a',h')):∃r,x=some (r,h')∧e=.normal∧a'=⟨Fr.tree (tupFr ts r),ds⟩:=by
 cases x with
 |none=>cases z
 |some p=>
  obtain⟨r,h⟩:=p;simp only[decA,Option.some.injEq,Prod.mk.injEq] at z;obtain⟨rfl,rfl,rfl⟩:=z;exact⟨r,rfl,rfl,rfl⟩
theorem decB_some{ds:z8b}{x:R}{e:AExit}{a':AAct}{h':AHeap}(z:decB ds x=some (e,a',h')):∃r,x=some (r,h')∧e=decE r∧a'=⟨Fr.tree [],ds⟩:=by
 cases x with
 |none=>cases z
 |some p=>
  obtain⟨r,h⟩:=p;simp only[decB,Option.some.injEq,Prod.mk.injEq] at z;obtain⟨rfl,rfl,rfl⟩:=z;exact⟨r,rfl,rfl,rfl⟩
end
noncomputable section
open Go.RowKit
def orF(a b:z10):z10:=fun f args h=>match a f args h with
 |some r=>some r
 |none=>b f args h
theorem orF_ok{P:Program}{a b:z10}(ha:SaysAll P a)(hb:SaysAll P b):SaysAll P (orF a b):=by
 intro f args h r h' e;unfold orF at e
 split at e
 ·rename_i r' e2
  cases e
  exact ha _ _ _ _ _ e2
 ·exact hb _ _ _ _ _ e
theorem orF_l{a b:z10}{f:FuncId}{args:List AV}{h:AHeap}{x:ARes×AHeap}(e:a f args h=some x):orF a b f args h=some x:=by
 unfold orF;rw[e]
theorem orF_r{a b:z10}{f:FuncId}{args:List AV}{h:AHeap}(e:a f args h=none):orF a b f args h=b f args h:=by
 unfold orF;rw[e]
theorem z2d3{f:FuncId}:∀(l:List (FuncId×FnT)) (args:List AV) (h:AHeap),(l.all fun p=> !Nat.beq p.1 f)=true→z184 l f args h=none
 |[],_,_,_=>rfl
 |(g,s)::l,args,h,e=>by
  rw[List.all_cons,Bool.and_eq_true] at e;unfold z184;have e1:Nat.beq g f=false:=by simpa using e.1
  rw[e1];exact z2d3 l args h e.2
def y2b:Code→Nat
 | .region id _ _=>id+1
 | .seq a b=>y2b a*3+y2b b
 | .cond _ a b=>y2b a*5+y2b b
 | .block _ a=>y2b a
 | .loop a=>y2b a
 |_=>0
structure LSite where
 N:Nat
 c:Code
 sa:List Nat
 fa:z4a→FnT
 ts:List Nat
 fb:z4a→FnT
open Classical in
def z2f0(sites:List LSite)(q:ALoop):Option LSite:=sites.find? fun s=>Nat.beq s.N q.N&&(Nat.beq (y2b (y1d s.c)) (y2b q.body)&&decide (y20 s.c=q.assign∧y1d s.c=q.body))
theorem z314{sites:List LSite}{q:ALoop}{s:LSite}(h:z2f0 sites q=some s):s∈sites∧s.N=q.N∧y20 s.c=q.assign∧y1d s.c=q.body:=by
 have h1:=List.mem_of_find?_eq_some h;have h2:=List.find?_some h;simp only[Bool.and_eq_true,decide_eq_true_eq] at h2;exact⟨h1,Nat.eq_of_beq_eq_true h2.1,h2.2.2.1,h2.2.2.2⟩
open Classical in
theorem lsite_hit{s:LSite}{l:List LSite}{q:ALoop}(h1:s.N=q.N)(h2:y20 s.c=q.assign)(h3:y1d s.c=q.body):z2f0 (s::l) q=some s:=by
 unfold z2f0;rw[List.find?_cons_of_pos];rw[h1,h2,h3,Nat.beq_refl,Nat.beq_refl];exact decide_eq_true ⟨rfl,rfl⟩
def z1b1(t:T AV):List Nat→Option (List AV)
 |[]=>some []
 |i::l=>match t.get i,z1b1 t l with
  |some v,some vs=>some (v::vs)
  |_,_=>none
theorem z247{t:T AV}:∀{l:List Nat} {vs:List AV},z1b1 t l=some vs→∀i v,Fr.get (l.zip vs) i=some v→t.get i=some v
 |[],vs,h,i,v,e=>by
  cases h
  cases e
 |j::l,vs,h,i,v,e=>by
  unfold z1b1 at h
  split at h
  ·rename_i w ws e1 e2
   cases h;rw[List.zip_cons_cons] at e;unfold Fr.get at e
   split at e
   ·rename_i hb
    have:=Nat.eq_of_beq_eq_true hb;subst this
    cases e
    exact e1
   ·exact z247 e2 i v e
  ·cases h
def LSite.A(s:LSite)(both:z4a):AAct→AHeap→z82:=fun a h=>match z1b1 a.tmps s.sa with
 |some vs=>decA s.ts a.defers (s.fa both vs h)
 |none=>none
def LSite.B(s:LSite)(both:z4a):AAct→AHeap→z82:=fun a h=>match z1b1 a.tmps s.ts with
 |some vs=>decB a.defers (s.fb both vs h)
 |none=>none
structure LSite.ok (P:Program) (s:LSite):Prop where
 A:∀{both:z4a},BothAll P both→∀{vs:List AV} {h:AHeap} {r:ARes} {h':AHeap},s.fa both vs h=some (r,h')→∀(w0:Base) (m0:Map) (rd:Option Nat) (n:Nat) (ds:z8b),WR P w0 m0 s.N rd n (y20 s.c) (z494 w0 m0 s.N .normal ⟨Fr.tree (tupFr s.ts r),ds⟩ h') (s.sa.zip vs) ds h
 B:∀{both:z4a},BothAll P both→∀{vs:List AV} {h:AHeap} {r:ARes} {h':AHeap},s.fb both vs h=some (r,h')→∀(w0:Base) (m0:Map) (rd:Option Nat) (n:Nat) (ds:z8b),WR P w0 m0 s.N rd n (y1d s.c) (z494 w0 m0 s.N (decE r) ⟨Fr.tree [],ds⟩ h') (s.ts.zip vs) ds h
theorem LSite.okA{P:Program}{s:LSite}(hs:s.ok P){both:z4a}(hc:BothAll P both)(w0:Base)(rb:Option Nat):z204 P w0 s.N rb (s.A both) (y20 s.c):=by
 refine z329 (fun t ds h e a' h' hr=>?_) rb;unfold LSite.A at hr
 split at hr
 ·rename_i vs hv
  obtain⟨r,e1,rfl,rfl⟩:=decA_some hr;exact⟨s.sa.zip vs,z247 hv,fun rd n m0=>hs.A hc e1 w0 m0 rd n ds⟩
 ·cases hr
theorem LSite.okB{P:Program}{s:LSite}(hs:s.ok P){both:z4a}(hc:BothAll P both)(w0:Base)(rb:Option Nat):z204 P w0 s.N rb (s.B both) (y1d s.c):=by
 refine z329 (fun t ds h e a' h' hr=>?_) rb;unfold LSite.B at hr
 split at hr
 ·rename_i vs hv
  obtain⟨r,e1,rfl,rfl⟩:=decB_some hr;exact⟨s.ts.zip vs,z247 hv,fun rd n m0=>hs.B hc e1 w0 m0 rd n ds⟩
 ·cases hr
def z42f(fa fb:ALoop→AAct→AHeap→z82)(b:Nat)(args:List AV)(h:AHeap):Option (ARes×AHeap):=match h.get b with
 |some (.obj (.loop r))=>match z351 r.N r.ps.toList args r.tmps with
  |some t=>z35a (fb r) b (fa r ⟨t,[]⟩ h)
  |none=>none
 |_=>none
theorem z4ad{P:Program}{w0:Base}{fa fb:ALoop→AAct→AHeap→z82}(ha:∀(q:ALoop) (b:Nat),z204 P w0 q.N (some b) (fa q) q.assign)(hb:∀(q:ALoop) (b:Nat),z204 P w0 q.N (some b) (fb q) q.body):z2de P w0 (z42f fa fb):=by
 intro b args h r h' hr m w args' g r' hra F hmb hl hlen rd n;unfold z42f at hr
 split at hr
 ·rename_i rr hb0
  split at hr
  ·rename_i t ht
   obtain⟨_,_,_,r2,k1,k2,k3,k4,k5,k6,k7,k8,k9⟩:=F.obj _ _ _ _ _ hb0 hmb;rw[hl] at k1
   cases k1
   have hfr:=putPs_ok rr.ps.toList args args' rr.tmps t r'.tmps ht hra k4 k5
   have hz:(r'.params.zip ⟨args'⟩).foldl (fun tmps (x:Tmp×Value)=>tmps.setIfInBounds x.1 x.2) r'.tmps=(rr.ps.toList.zip args').foldl (fun tmps (p:Tmp×Value)=>tmps.setIfInBounds p.1 p.2) r'.tmps:=by
    rw[k6, ←Array.foldl_toList,Array.toList_zip]
   rw[←hz] at hfr;refine roundIn_of_wpIn trivial ?_;have hrel:RelAct m rr.N ⟨t,[]⟩ {tmps:=(r'.params.zip ⟨args'⟩).foldl (fun tmps (x:Tmp×Value)=>tmps.setIfInBounds x.1 x.2) r'.tmps,defers:=[]}:=⟨hfr.1,fun i v hv=>hfr.2 i v hv,.nil⟩;unfold z35a at hr
   split at hr
   ·rename_i a1 h1 hcode
    have h1w:=ha rr b _ _ _ _ _ hcode (some g) n m _ w hmb hrel F;rw[k7];refine wpIn_mono h1w ?_
    rintro e1 act1 w1 ⟨m1,hx1,ha1,F1,hex⟩
    cases hex
    split at hr
    ·rename_i r1 hb1
     split at hr
     ·rename_i hst
      have hmb1:=hx1.le _ _ hmb;obtain⟨r1',q1,q2,q3,q4,F2⟩:=F1.reLoop hb1 hmb1 .busy r1.pend;rw[←q3] at F2;refine⟨_,run_beginRound q1 (by rw[q2];exact hst),?_⟩;unfold z368 at hr
      split at hr
      ·rename_i e3 a3 h3 hbody
       split at hr
       ·rename_i j hj
        split at hr
        ·rename_i r3 hb3
         simp only[Option.some.injEq,Prod.mk.injEq] at hr;obtain⟨rfl,rfl⟩:=hr;have h2w:=hb rr b _ _ _ _ _ hbody (some g) n m1 _ _ hmb1 ha1 F2;rw[k8];refine wpIn_mono h2w ?_
         rintro e4 act4 w4 ⟨m4,hx4,ha4,F4,hex⟩
         have hmb4:=hx4.le _ _ hmb1;obtain⟨r3',p1,p2,p3,p4,F5⟩:=F4.reLoop hb3 hmb4 (if j.isNone then .ready else .done) j;have hx:=hx1.trans hx4;cases hex with
         |normal=>
          simp only[z315,Option.some.injEq] at hj;subst hj;exact⟨_,_,run_endRound none p1,m4,hx,F5,_,rfl,.bool _⟩
         |ret=>
          simp only[z315,Option.some.injEq] at hj;subst hj;exact⟨_,_,run_endRound (some .ret) p1,m4,hx,F5,_,rfl,.bool _⟩
         |exit id=>
          simp only[z315,Option.some.injEq] at hj;subst hj;exact⟨_,_,run_endRound (some (.exit id)) p1,m4,hx,F5,_,rfl,.bool _⟩
         |goto l=>cases hj
         |panic hv=>cases hj
        ·cases hr
       ·cases hr
      ·cases hr
     ·cases hr
    ·cases hr
   ·cases hr
  ·cases hr
 ·cases hr
def z304(sites:List LSite)(both:z4a):Nat→List AV→AHeap→Option (ARes×AHeap):=z42f
 (fun q => match z2f0 sites q with
  |some s=>s.A both
  |none=>fun _ _=>none)
 (fun q => match z2f0 sites q with
  |some s=>s.B both
  |none=>fun _ _=>none)
theorem z4ae{P:Program}{sites:List LSite}(hs:∀s∈sites,s.ok P){both:z4a}(hc:BothAll P both)(w0:Base):z2de P w0 (z304 sites both):=by
 refine z4ad (fun q b=>?_) (fun q b=>?_)
 ·cases hf : z2f0 sites q with
  |none=>exact fun _ _ _ _ _ e=>nomatch e
  |some s=>
   obtain⟨h1,h2,h3,_⟩:=z314 hf;rw[←h2, ←h3];exact LSite.okA (hs s h1) hc w0 (some b)
 ·cases hf : z2f0 sites q with
  |none=>exact fun _ _ _ _ _ e=>nomatch e
  |some s=>
   obtain⟨h1,h2,_,h4⟩:=z314 hf;rw[←h2, ←h4];exact LSite.okB (hs s h1) hc w0 (some b)
def z2fc(sites:List LSite)(top:z4a→List (FuncId×FnT))(base:z10):Nat→z4a:=z425 (fun both=>orF (z184 (top both)) base) (z304 sites)
theorem z498{P:Program}{sites:List LSite}(hs:∀s∈sites,s.ok P){top:z4a→List (FuncId×FnT)}(ht:∀both,BothAll P both→SaysAll P (z184 (top both))){base:z10}(hb:SaysAll P base)(d:Nat):BothAll P (z2fc sites top base d):=
 z291 (fun _ hc=>orF_ok (ht _ hc) hb) (fun _ hc w0=>z4ae hs hc w0) d
section
variable {sites:List LSite}{top:z4a→List (FuncId×FnT)}{base:z10}{d:Nat}{f:FuncId}{args:List AV}{h:AHeap}{x:ARes×AHeap}
theorem zee(e:z184 (top (z2fc sites top base d)) f args h=some x):z2fc sites top base (d+1) false f args h=some x:=orF_l e
theorem z3e5(e:z184 (top (z2fc sites top base d)) f args h=none):z2fc sites top base (d+1) false f args h=base f args h:=orF_r e
end
def z289(s:LoopState)(j:AJump)(N:Nat)(c:Code)(t:T AV)(D:Nat):AObj:=.obj (.loop ⟨s,j,t,N,y1a c,y20 c,y1d c,D⟩)
theorem rngH_rec(N:Nat)(c:Code)(t:T AV)(h:AHeap):(z496 N c t h).get (h.next+1)=some (z289 .ready .none N c t h.next):=z3c _
theorem z4b1(N:Nat)(c:Code)(t:T AV)(h:AHeap):(z496 N c t h).get h.next=some (.obj .dfr):=by
 refine(z1b _ ?_).trans (z3c _);show h.next+1≠h.next;omega
theorem z4b0(N:Nat)(c:Code)(t:T AV)(h:AHeap):(z496 N c t h).next=h.next+2:=rfl
theorem rngH_tch(S:List Nat)(N:Nat)(c:Code)(t:T AV)(h:AHeap):Tch S h (z496 N c t h):=(Tch.new S h _).trans (Tch.new S _ _)
def z2bb(z:Int):AJump:=match decE (.ret (.int .i64 z)) with
 | .ret=>.ret
 | .exit id=>.exit id
 |_=>.none
def stZ(j:AJump):LoopState:=if j.isNone then .ready else .done
theorem z404(k:IntKind)(z:Int):z315 (decE (.ret (.int k z)))=some (z2bb z):=by
 show z315 (match z with
  |0=>AExit.normal
  |1=>.ret
  |z=>.exit (z - 2).toNat)=some (match (match z with
  |0=>AExit.normal
  |1=>.ret
  |z=>.exit (z - 2).toNat) with
  | .ret=>AJump.ret
  | .exit id=>.exit id
  |_=>.none)
 split<;>rfl
section
variable {sites:List LSite}{both:z4a}{s:LSite}{b N D:Nat}{c:Code}{t t0:T AV}{h h1 h2:AHeap}{args vs ws:List AV}{z:Int}{j:AJump}
theorem round_L(hb:h.get b=some (z289 .ready j N c t0 D))(hs:∀st jj,z2f0 sites ⟨st,jj,t0,N,y1a c,y20 c,y1d c,D⟩=some s)(hp:z351 N (y1a c).toList args t0=some t)(hg:z1b1 t s.sa=some vs)(ea:s.fa both vs h=some (.ret (.tup ws),h1))(k1:h1.get b=h.get b)(hg2:z1b1 (Fr.tree (s.ts.zip ws)) s.ts=some ws)(eb:s.fb both ws (h1.put b (z289 .busy j N c t0 D))=some (.ret (.int .i64 z),h2))(k2:h2.get b=some (z289 .busy j N c t0 D)):
  z304 sites both b args h=some (.ret (.bool (z2bb z).isNone),h2.put b (z289 (stZ (z2bb z)) (z2bb z) N c t0 D)):=by
 unfold z304 z42f;unfold z289 at hb k2 eb ⊢;rw[hb];simp only[hp];rw[hs]
 have e1:s.A both ⟨t,[]⟩ h=some (.normal,⟨Fr.tree (s.ts.zip ws),[]⟩,h1):=by
  unfold LSite.A;simp only[hg,ea];rfl
 simp only[e1,z35a];rw[k1,hb]
 have e2:s.B both ⟨Fr.tree (s.ts.zip ws),[]⟩ (h1.put b (.obj (.loop ⟨.busy,j,t0,N,y1a c,y20 c,y1d c,D⟩)))=some (decE (.ret (.int .i64 z)),⟨Fr.tree [],[]⟩,h2):=by
  unfold LSite.B;simp only[hg2,eb];rfl
 simp only[e2,z368,z404,k2];rfl
end
end
noncomputable section
open Go.RowKit
section
variable {P:Program}{both:z4a}{sites:List LSite}{s:LSite}{b N D:Nat}{c:Code}{t0:T AV}{h:AHeap}{args vs:List AV}{j:AJump}{st:LoopState}{Q:ARes→AHeap→Prop}
theorem dynB_yld(hb:h.get b=some (z289 st j N c t0 D))(hl:Nat.beq args.length (y1a c).size=true):dynB P both (.yld b) args h=both true b args h:=by
 have e:callV P h args (some (.yld b))=some (.round b args,h):=by
  show z423 h args b=_;unfold z423;rw[hb];unfold z289;simp only[hl,if_true]
 unfold dynB;rw[e]
theorem y3a{k:AHeap→R}(hk:Wp (k h) Q):Wp (z269 [] h k) Q:=hk
theorem Wp.marks1{k:AHeap→R}{ds:z8b}(hD:h.get D=some (.obj .dfr))(hk:Wp (z269 ds (h.put D (.obj .shut)) k) Q):Wp (z269 (dmark D::ds) h k) Q:=by
 unfold z269 at hk ⊢
 have e:z26a (dmark D::ds) h=z26a ds (h.put D (.obj .shut)):=by
  show (match h.get D with
   |some (.obj .dfr)=>z26a ds (h.put D (.obj .shut))
   |_=>none)=_
  rw[hD]
 rw[e];exact hk
theorem round_W{G:Int→AHeap→Prop}(hb:h.get b=some (z289 .ready j N c t0 D))(hs:∀st jj,z2f0 sites ⟨st,jj,t0,N,y1a c,y20 c,y1d c,D⟩=some s)(hg:((z351 N (y1a c).toList args t0).bind fun t=>z1b1 t s.sa)=some vs)(ea : Wp (s.fa both vs h) fun r h1 => ∃ ws, r = .ret (.tup ws) ∧ h1.get b = h.get b ∧ z1b1 (Fr.tree (s.ts.zip ws)) s.ts = some ws ∧
   Wp (s.fb both ws (h1.put b (z289 .busy j N c t0 D))) fun r2 h2=>∃z,r2=.ret (.int .i64 z)∧h2.get b=some (z289 .busy j N c t0 D)∧G z (h2.put b (z289 (stZ (z2bb z)) (z2bb z) N c t0 D))):
  ∃z h',z304 sites both b args h=some (.ret (.bool (z2bb z).isNone),h')∧G z h':=by
 obtain⟨t,hp,hg⟩:=Option.bind_eq_some_iff.1 hg;obtain⟨_,h1,e1,ws,rfl,k1,g2,_,h2,e2,z,rfl,k2,hG⟩:=ea;exact⟨z,_,round_L hb hs hp hg e1 k1 g2 e2 k2,hG⟩
end
section
variable {P:Program}{both:z4a}{N:Nat}{c:Code}{t:T AV}{ds:z8b}{h h2:AHeap}{kn kr:AHeap→R}{ke:Nat→AHeap→R}{Q:ARes→AHeap→Prop}{g:FuncId}{first cap:List AV}{v:AV}{st:LoopState}{j:AJump}
theorem Wp.rng(hb:z164 P g=true)(e:both false g (first++[.yld (h.next+1)]++cap) (z496 N c t h)=some (.ret v,h2))(hq:h2.get (h.next+1)=some (z289 st j N c t h.next))(hs:st≠ .busy)(hn:j=.none→Wp (kn (h2.put (h.next+1) (z289 .exhausted j N c t h.next))) Q)(hr:j=.ret→Wp (kr (h2.put (h.next+1) (z289 .exhausted j N c t h.next))) Q)(he:∀id,j=.exit id→Wp (ke id (h2.put (h.next+1) (z289 .exhausted j N c t h.next))) Q):Wp (rngK (rngX P both N (.fn g first cap) c t ds h) kn kr ke) Q:=by
 cases j with
 |none=>exact Wp.rngN hb e hq hs rfl (hn rfl)
 |ret=>exact Wp.rngR hb e hq hs rfl (hr rfl)
 |exit id=>exact Wp.rngE hb e hq hs rfl (he id rfl)
end
theorem y7{α:Type}{a:α}{K:α→R}{Q:ARes→AHeap→Prop}(hk:∀x,x=a→Wp (K x) Q):Wp (Abs.lett a K) Q:=hk a rfl
end
end Go.Proofs.Ytpnccmlajhhpdaa.Abs
namespace Go.Proofs.Ytpnccmlajhhpdaa
open Go.RowKit Abs
noncomputable def z10c(both:z4a)(t0:AV)(t1:AV)(self:Int→AHeap→R)(t3:Int)(h_4:AHeap):R:=obind (zc h_4 t1) fun v8=>obind (z20 v8) fun t8=>obind (z43 t8 t3 (z3b t8)) fun t10=>callN (both false 93 [z5 t10] h_4) fun r11 h_10=>obind (z166 0 r11) fun v12=>obind (z20 v12) fun t12=>obind (z166 1 r11) fun v13=>obind (z17 .i64 v13) fun t13=>obind (z166 2 r11) fun v14=>obind (z17 .i64 v14) fun t14=>lett ((t14:Int) != 0) fun (t16:Bool)=>lett (fun (t23:Bool) (h_21:AHeap)=>ifB t23 (z269 [] h_21 fun h_24=>some (.ret (.tup []),h_24)) (lett (IntKind.i64.wrap (t3+t13)) fun (t26:Int)=>self t26 h_21)) fun j23=>ifB t16 (j23 true h_10) (callN (dynB Try.prog both t0 [.int .i64 t3,z5 t12] h_10) fun r21 h_26=>obind (z33 r21) fun t21=>lett (!t21) fun (t22:Bool)=>j23 t22 h_26)
noncomputable def zde(both:z4a)(t0:AV)(t1:AV):Nat→Int→AHeap→R:=z122 (fun _ _=>none) (z10c both t0 t1)
theorem z1a8(both:z4a)(t0:AV)(t1:AV)(m:Nat):zde both t0 t1 (m+1)=z10c both t0 t1 (zde both t0 t1 m):=rfl
noncomputable def zec(both:z4a)(n:Nat)(t0:AV)(t1:AV)(h:AHeap):R:=zde both t0 t1 n 0 h
set_option maxHeartbeats 4000000 in
set_option maxRecDepth 20000 in
theorem z2f8{both:z4a}(hc:BothAll Try.prog both){n:Nat}{t0:AV}{t1:AV}{h:AHeap}{rR:ARes}{hR:AHeap}(hF:zec both n t0 t1 h=some (rR,hR)):Says Try.prog 92 [t0,t1] h rR hR:=by
 unfold zec at hF;refine z42e (fn:=Try.f92) Try.func92 (c:=z2a Try.f92) (by kernel_rfl) (by kernel_rfl) (fun w0 m0=>WR.weaken (l':=[(0,t0),(1,t1)]) (yc (by kernel_rfl) (yc (by kernel_rfl) (y11 _))) (WR.seqK (by kernel_rfl) (fun K1 n1 e1 q1 p1=>WR.region (by kernel_rfl) (WLR.val (d:=(some 3)) (v:=.int .i64 0) (h':=h) (by kernel_rfl) (by kernel_rfl) (by kernel_rfl) (WLR.nil (by kernel_rfl) (Go.weaken (l':=[(0,t0),(1,t1),(3,.int .i64 0)]) (yc (by kernel_rfl) (yc (by kernel_rfl) (yc (by kernel_rfl) (y11 _)))) (n1 (WR.blockK (by kernel_rfl) (fun K2 n2 s2 o2 q2 p2=>WR.loopK (by kernel_rfl) (fun I3 K3 b3 n3 e3 q3 p3=>?_))))))))))
 have L3:∀(m:Nat) (t3:Int) (h_4:AHeap),zde both t0 t1 m t3 h_4=some (rR,hR)→Go w0 m0 (Func.ntmps Try.f92) I3 [(0,t0),(1,t1),(3,.int .i64 t3)] [] h_4:=by
  intro m
  induction m with
  |zero=>intro t3 h_4 hF;cases hF
  |succ m ih3=>
   intro t3 h_4 hF;rw[z1a8] at hF;unfold z10c at hF;refine b3 (WR.blockK (by kernel_rfl) (fun K5 n5 s5 o5 q5 p5=>WR.seqK (by kernel_rfl) (fun K6 n6 e6 q6 p6=>WR.region (by kernel_rfl) ?_)))
   replace hF:=z4 hF;obtain⟨v8,e7,hF⟩:=hF
   replace hF:=z4 hF;obtain⟨t8,c8,hF⟩:=hF
   have c8:=z19 c8;subst c8;refine WLR.val (d:=(some 8)) (v:=z5 t8) (h':=h_4) (by kernel_rfl) (by kernel_rfl) (Eq.trans (by kernel_rfl) (z14 (P:=Try.prog) (h:=h_4) (t:=9) (by kernel_rfl) e7)) (WLR.val (d:=(some 9)) (v:=.int .i64 t3) (h':=h_4) (by kernel_rfl) (by kernel_rfl) (by kernel_rfl) ?_)
   replace hF:=z4 hF;obtain⟨t10,e9,hF⟩:=hF
   refine WLR.val (d:=(some 10)) (v:=z5 t10) (h':=h_4) (by kernel_rfl) (by kernel_rfl) (Eq.trans (by kernel_rfl) (z48 (P:=Try.prog) (h:=h_4) (t:=9) (A:=(some (.int .i64 t3))) (B:=none) (by kernel_rfl) (.inl ⟨_,rfl⟩) (.inr ⟨rfl,rfl⟩) e9)) ?_
   replace hF:=z18 hF;obtain⟨r11,h_10,e11,hF⟩:=hF
   refine WLR.call (hc.says.ok w0) (d:=(some 11)) (by kernel_rfl) (by kernel_rfl) (by kernel_rfl) e11 (WLR.val (d:=(some 7)) (v:=r11) (h':=h_10) (by kernel_rfl) (by kernel_rfl) (by kernel_rfl) ?_)
   replace hF:=z4 hF;obtain⟨v12,e12,hF⟩:=hF
   replace hF:=z4 hF;obtain⟨t12,c13,hF⟩:=hF
   have c13:=z19 c13;subst c13;refine WLR.val (d:=(some 12)) (v:=z5 t12) (h':=h_10) (by kernel_rfl) (by kernel_rfl) (Eq.trans (by kernel_rfl) (zc3 (h:=h_10) e12)) ?_
   replace hF:=z4 hF;obtain⟨v13,e14,hF⟩:=hF
   replace hF:=z4 hF;obtain⟨t13,c15,hF⟩:=hF
   have c15:=z1a c15;subst c15;refine WLR.val (d:=(some 13)) (v:=.int .i64 t13) (h':=h_10) (by kernel_rfl) (by kernel_rfl) (Eq.trans (by kernel_rfl) (zc3 (h:=h_10) e14)) ?_
   replace hF:=z4 hF;obtain⟨v14,e16,hF⟩:=hF
   replace hF:=z4 hF;obtain⟨t14,c17,hF⟩:=hF
   have c17:=z1a c17;subst c17;refine WLR.val (d:=(some 14)) (v:=.int .i64 t14) (h':=h_10) (by kernel_rfl) (by kernel_rfl) (Eq.trans (by kernel_rfl) (zc3 (h:=h_10) e16)) (WLR.val (d:=(some 4)) (v:=z5 t12) (h':=h_10) (by kernel_rfl) (by kernel_rfl) (by kernel_rfl) (WLR.val (d:=(some 5)) (v:=.int .i64 t13) (h':=h_10) (by kernel_rfl) (by kernel_rfl) (by kernel_rfl) (WLR.val (d:=(some 6)) (v:=.int .i64 t14) (h':=h_10) (by kernel_rfl) (by kernel_rfl) (by kernel_rfl) (WLR.nil (by kernel_rfl) (Go.weaken (l':=[(0,t0),(1,t1),(3,.int .i64 t3),(4,z5 t12),(5,.int .i64 t13),(6,.int .i64 t14)]) (yc (by kernel_rfl) (yc (by kernel_rfl) (yc (by kernel_rfl) (yc (by kernel_rfl) (yc (by kernel_rfl) (yc (by kernel_rfl) (y11 _))))))) (n6 (WR.seqK (by kernel_rfl) (fun K18 n18 e18 q18 p18=>WR.seqK (by kernel_rfl) (fun K19 n19 e19 q19 p19=>WR.region (by kernel_rfl) (WLR.val (d:=(some 15)) (v:=.int .i64 t14) (h':=h_10) (by kernel_rfl) (by kernel_rfl) (by kernel_rfl) ?_))))))))))
   replace hF:=z6 hF;obtain⟨t16,e20,hF⟩:=hF
   refine WLR.val (d:=(some 16)) (v:=.bool t16) (h':=h_10) (by kernel_rfl) (by kernel_rfl) (z38 AV.bool e20 (by kernel_rfl)) (WLR.val (d:=(some 17)) (v:=.bool t16) (h':=h_10) (by kernel_rfl) (by kernel_rfl) (by kernel_rfl) ?_)
   replace hF:=z6 hF;obtain⟨j23,e22,hF⟩:=hF
   have J23:∀(t23:Bool) (h_21:AHeap),j23 t23 h_21=some (rR,hR)→WLR Try.prog w0 m0 (Func.ntmps Try.f92) none 0 (Code.ops (y6 (y6 (y5 (y6 (y6 (y6 (y5 (z2a Try.f92))))))))) 9 K19 [(0,t0),(1,t1),(3,.int .i64 t3),(5,.int .i64 t13),(23,.bool t23)] [] h_21:=by
    intro t23 h_21 hF;rw[e22] at hF;refine WLR.nil (by kernel_rfl) (Go.weaken (l':=[(0,t0),(1,t1),(3,.int .i64 t3),(5,.int .i64 t13),(23,.bool t23)]) (yc (by kernel_rfl) (yc (by kernel_rfl) (yc (by kernel_rfl) (yc (by kernel_rfl) (yc (by kernel_rfl) (y11 _)))))) (n19 ?_))
    cases t23 with
    |true=>
     replace hF:=z4f hF
     refine WR.cond_true (by kernel_rfl) (by kernel_rfl) (WR.ret (by kernel_rfl) (q18 (q5 (q3 (q2 (y44 hF (fun h_24 hF=>?_)))))));obtain⟨hF,hF2⟩:=z24c hF;subst hF;subst hF2;exact ret_of (rs:=[]) (vs:=[]) (by kernel_rfl) zd (by kernel_rfl)
    |false=>
     replace hF:=z50 hF
     refine WR.cond_false (by kernel_rfl) (by kernel_rfl) (WR.skip (by kernel_rfl) (n18 (WR.region (by kernel_rfl) (WLR.val (d:=(some 24)) (v:=.int .i64 t3) (h':=h_21) (by kernel_rfl) (by kernel_rfl) (by kernel_rfl) (WLR.val (d:=(some 25)) (v:=.int .i64 t13) (h':=h_21) (by kernel_rfl) (by kernel_rfl) (by kernel_rfl) ?_)))))
     replace hF:=z6 hF;obtain⟨t26,e25,hF⟩:=hF
     exact WLR.val (d:=(some 26)) (v:=.int .i64 t26) (h':=h_21) (by kernel_rfl) (by kernel_rfl) (z38 (AV.int .i64) e25 (by kernel_rfl)) (WLR.val (d:=(some 3)) (v:=.int .i64 t26) (h':=h_21) (by kernel_rfl) (by kernel_rfl) (by kernel_rfl) (WLR.nil (by kernel_rfl) (Go.weaken (l':=[(0,t0),(1,t1),(3,.int .i64 t26)]) (yc (by kernel_rfl) (yc (by kernel_rfl) (yc (by kernel_rfl) (y11 _)))) (n5 (n3 (Go.weaken (yc (by kernel_rfl) (yc (by kernel_rfl) (yc (by kernel_rfl) (y11 _)))) (ih3 _ _ hF)))))))
   cases t16 with
   |true=>
    replace hF:=z4f hF
    exact WLR.not (d:=(some 18)) (by kernel_rfl) (by kernel_rfl) (WLR.not (d:=(some 19)) (by kernel_rfl) (by kernel_rfl) (WLR.not (d:=(some 20)) (by kernel_rfl) (by kernel_rfl) (WLR.not (d:=(some 21)) (by kernel_rfl) (by kernel_rfl) (WLR.not (d:=(some 22)) (by kernel_rfl) (by kernel_rfl) (WLR.val (d:=(some 23)) (v:=.bool true) (h':=h_10) (by kernel_rfl) (by kernel_rfl) (by kernel_rfl) (WLR.weaken (yc (by kernel_rfl) (yc (by kernel_rfl) (yc (by kernel_rfl) (yc (by kernel_rfl) (yc (by kernel_rfl) (y11 _)))))) (J23 _ _ hF)))))))
   |false=>
    replace hF:=z50 hF
    refine WLR.val (d:=(some 18)) (v:=t0) (h':=h_10) (by kernel_rfl) (by kernel_rfl) (by kernel_rfl) (WLR.val (d:=(some 19)) (v:=.int .i64 t3) (h':=h_10) (by kernel_rfl) (by kernel_rfl) (by kernel_rfl) (WLR.val (d:=(some 20)) (v:=z5 t12) (h':=h_10) (by kernel_rfl) (by kernel_rfl) (by kernel_rfl) ?_))
    replace hF:=z18 hF;obtain⟨r21,h_26,e27,hF⟩:=hF
    replace hF:=z4 hF;obtain⟨t21,c28,hF⟩:=hF
    have c28:=z24 c28;subst c28;refine WLR.dyn (d:=(some 21)) hc e27 ?_
    replace hF:=z6 hF;obtain⟨t22,e29,hF⟩:=hF
    exact WLR.val (d:=(some 22)) (v:=.bool t22) (h':=h_26) (by kernel_rfl) (by kernel_rfl) (z38 AV.bool e29 (by kernel_rfl)) (WLR.val (d:=(some 23)) (v:=.bool t22) (h':=h_26) (by kernel_rfl) (by kernel_rfl) (by kernel_rfl) (WLR.weaken (yc (by kernel_rfl) (yc (by kernel_rfl) (yc (by kernel_rfl) (yc (by kernel_rfl) (yc (by kernel_rfl) (y11 _)))))) (J23 _ _ hF)))
 exact Go.weaken (yc (by kernel_rfl) (yc (by kernel_rfl) (yc (by kernel_rfl) (y11 _)))) (L3 _ _ _ hF)
noncomputable def zdd(both:z4a)(n:Nat):FnT:=fun args h=>match args with
 |[x0,x1]=>zec both n x0 x1 h
 |_=>none
set_option maxRecDepth 100000 in
theorem z256(both:z4a)(n:Nat)(t0:AV)(t1:AV)(h:AHeap):zdd both n [t0,t1] h=zec both n t0 t1 h:=
 rfl
theorem z255{both:z4a}(hc:BothAll Try.prog both)(n:Nat):z376 Try.prog 92 (zdd both n):=by
 intro args h r h2 e;unfold zdd at e
 split at e
 ·exact z2f8 hc (n:=n) e
 ·cases e
noncomputable def z85(_:z4a)(_:Nat)(t2:AV)(t3:AV)(t8:Int)(t9:Bytes)(h:AHeap):R:=some (.ret (.tup [t2,t3,.int .i64 t8,z5 t9]),h)
set_option maxHeartbeats 4000000 in
set_option maxRecDepth 20000 in
theorem z254{both:z4a}(_:BothAll Try.prog both){n:Nat}{t2:AV}{t3:AV}{t8:Int}{t9:Bytes}{h:AHeap}{rR:ARes}{hR:AHeap}(hF:z85 both n t2 t3 t8 t9 h=some (rR,hR)){w0:Base}{m0:Map}{rd:Option Nat}{nR:Nat}{ds:z8b}:WR Try.prog w0 m0 (Func.ntmps Try.f77) rd nR (y20 (y6 (y5 (y6 (y5 (z2a Try.f77)))))) (z494 w0 m0 (Func.ntmps Try.f77) .normal ⟨Fr.tree (tupFr [2,3,4,5] rR),ds⟩ hR) [(2,t2),(3,t3),(8,.int .i64 t8),(9,z5 t9)] ds h:=by
 unfold z85 at hF;refine WR.seqK (by kernel_rfl) (fun K26 n26 e26 q26 p26=>WR.region (by kernel_rfl) (WLR.val (d:=(some 4)) (v:=.int .i64 t8) (h':=h) (by kernel_rfl) (by kernel_rfl) (by kernel_rfl) (WLR.nil (by kernel_rfl) (Go.weaken (l':=[(2,t2),(3,t3),(4,.int .i64 t8),(9,z5 t9)]) (yc (by kernel_rfl) (yc (by kernel_rfl) (yc (by kernel_rfl) (yc (by kernel_rfl) (y11 _))))) (n26 (WR.region (by kernel_rfl) (WLR.val (d:=(some 5)) (v:=z5 t9) (h':=h) (by kernel_rfl) (by kernel_rfl) (by kernel_rfl) (WLR.nil (by kernel_rfl) (Go.weaken (l':=[(2,t2),(3,t3),(4,.int .i64 t8),(5,z5 t9)]) (yc (by kernel_rfl) (yc (by kernel_rfl) (yc (by kernel_rfl) (yc (by kernel_rfl) (y11 _))))) ?_)))))))));obtain⟨hF,hF2⟩:=z24c hF;subst hF;subst hF2;exact y46 (l':=[(2,t2),(3,t3),(4,.int .i64 t8),(5,z5 t9)]) (yc (by kernel_rfl) (yc (by kernel_rfl) (yc (by kernel_rfl) (yc (by kernel_rfl) (y11 _)))))
noncomputable def z97(both:z4a)(n:Nat):FnT:=fun args h=>match args with
 |[x2,x3,x8,x9]=>obind (z17 .i64 x8) fun t8=>obind (z20 x9) fun t9=>z85 both n x2 x3 t8 t9 h
 |_=>none
set_option maxRecDepth 100000 in
theorem z1dc(both:z4a)(n:Nat)(t2:AV)(t3:AV)(t8:Int)(t9:Bytes)(h:AHeap):z97 both n [t2,t3,.int .i64 t8,z5 t9] h=z85 both n t2 t3 t8 t9 h:=
 (Eq.trans (z21f (fun t8=>obind (z20 (z5 t9)) fun t9=>z85 both n t2 t3 t8 t9 h) (z7 .i64 t8)) (Eq.trans (z21f (fun t9=>z85 both n t2 t3 t8 t9 h) (ze t9)) rfl))
noncomputable def z84(_:z4a)(_:Nat)(t2:AV)(t3:AV)(t4:Int)(t5:Bytes)(h:AHeap):R:=obind (zc h t2) fun v10=>outK (z1df Try.prog h 81 1 [(0,z5 t5)]) fun v12 h_30=>outK (z34 Try.prog h_30 81 81 v10 v12) fun v13 h_32=>obind (z22 h_32 1 (AV.cells v13) t2) fun h_34=>lett (IntKind.i64.wrap (t4+8)) fun (t15:Int)=>lett (IntKind.i64.wrap (t15+(z3b t5))) fun (t18:Int)=>lett (IntKind.i64.wrap (t18+4)) fun (t19:Int)=>obind (z22 h_34 1 [.int .i64 t19] t3) fun h_39=>some (.ret (.int .i64 0),h_39)
set_option maxHeartbeats 4000000 in
set_option maxRecDepth 20000 in
theorem z253{both:z4a}(_:BothAll Try.prog both){n:Nat}{t2:AV}{t3:AV}{t4:Int}{t5:Bytes}{h:AHeap}{rR:ARes}{hR:AHeap}(hF:z84 both n t2 t3 t4 t5 h=some (rR,hR)){w0:Base}{m0:Map}{rd:Option Nat}{nR:Nat}{ds:z8b}:WR Try.prog w0 m0 (Func.ntmps Try.f77) rd nR (y1d (y6 (y5 (y6 (y5 (z2a Try.f77)))))) (z494 w0 m0 (Func.ntmps Try.f77) (decE rR) ⟨Fr.tree [],ds⟩ hR) [(2,t2),(3,t3),(4,.int .i64 t4),(5,z5 t5)] ds h:=by
 unfold z84 at hF;refine WR.blockK (by kernel_rfl) (fun K27 n27 s27 o27 q27 p27=>WR.seqK (by kernel_rfl) (fun K28 n28 e28 q28 p28=>WR.region (by kernel_rfl) ?_))
 replace hF:=z4 hF;obtain⟨v10,e29,hF⟩:=hF
 refine WLR.val (d:=(some 10)) (v:=v10) (h':=h) (by kernel_rfl) (by kernel_rfl) (Eq.trans (by kernel_rfl) (z14 (P:=Try.prog) (h:=h) (t:=81) (by kernel_rfl) e29)) (WLR.val (d:=(some 11)) (v:=z5 t5) (h':=h) (by kernel_rfl) (by kernel_rfl) (by kernel_rfl) ?_)
 replace hF:=z1c hF;obtain⟨v12,h_30,e31,hF⟩:=hF
 refine WLR.val (d:=(some 12)) (v:=v12) (h':=h_30) (by kernel_rfl) (by kernel_rfl) (Eq.trans (by kernel_rfl) e31) ?_
 replace hF:=z1c hF;obtain⟨v13,h_32,e33,hF⟩:=hF
 refine WLR.val (d:=(some 13)) (v:=v13) (h':=h_32) (by kernel_rfl) (by kernel_rfl) (Eq.trans (by kernel_rfl) e33) ?_
 replace hF:=z4 hF;obtain⟨h_34,e35,hF⟩:=hF
 refine WLR.eff (h':=h_34) (by kernel_rfl) (by kernel_rfl) (Eq.trans (by kernel_rfl) (z55 (P:=Try.prog) (h:=h_32) (t:=81) (v:=v13) (by kernel_rfl) (by kernel_rfl) e35)) (WLR.nil (by kernel_rfl) (Go.weaken (l':=[(3,t3),(4,.int .i64 t4),(5,z5 t5)]) (yc (by kernel_rfl) (yc (by kernel_rfl) (yc (by kernel_rfl) (y11 _)))) (n28 (WR.region (by kernel_rfl) (WLR.val (d:=(some 14)) (v:=.int .i64 t4) (h':=h_34) (by kernel_rfl) (by kernel_rfl) (by kernel_rfl) ?_)))))
 replace hF:=z6 hF;obtain⟨t15,e36,hF⟩:=hF
 refine WLR.val (d:=(some 15)) (v:=.int .i64 t15) (h':=h_34) (by kernel_rfl) (by kernel_rfl) (z38 (AV.int .i64) e36 (by kernel_rfl)) (WLR.val (d:=(some 16)) (v:=z5 t5) (h':=h_34) (by kernel_rfl) (by kernel_rfl) (by kernel_rfl) (WLR.val (d:=(some 17)) (v:=.int .i64 (z3b t5)) (h':=h_34) (by kernel_rfl) (by kernel_rfl) (by kernel_rfl) ?_))
 replace hF:=z6 hF;obtain⟨t18,e37,hF⟩:=hF
 refine WLR.val (d:=(some 18)) (v:=.int .i64 t18) (h':=h_34) (by kernel_rfl) (by kernel_rfl) (z38 (AV.int .i64) e37 (by kernel_rfl)) ?_
 replace hF:=z6 hF;obtain⟨t19,e38,hF⟩:=hF
 refine WLR.val (d:=(some 19)) (v:=.int .i64 t19) (h':=h_34) (by kernel_rfl) (by kernel_rfl) (z38 (AV.int .i64) e38 (by kernel_rfl)) ?_
 replace hF:=z4 hF;obtain⟨h_39,e40,hF⟩:=hF
 refine WLR.eff (h':=h_39) (by kernel_rfl) (by kernel_rfl) (Eq.trans (by kernel_rfl) (z55 (P:=Try.prog) (h:=h_34) (t:=3) (v:=(.int .i64 t19)) (by kernel_rfl) (by kernel_rfl) e40)) (WLR.nil (by kernel_rfl) (Go.weaken (l':=[]) (y11 _) (n27 ?_)));obtain⟨hF,hF2⟩:=z24c hF;subst hF;subst hF2;exact y46 (l':=[]) (y11 _)
noncomputable def z96(both:z4a)(n:Nat):FnT:=fun args h=>match args with
 |[x2,x3,x4,x5]=>obind (z17 .i64 x4) fun t4=>obind (z20 x5) fun t5=>z84 both n x2 x3 t4 t5 h
 |_=>none
set_option maxRecDepth 100000 in
theorem z1db(both:z4a)(n:Nat)(t2:AV)(t3:AV)(t4:Int)(t5:Bytes)(h:AHeap):z96 both n [t2,t3,.int .i64 t4,z5 t5] h=z84 both n t2 t3 t4 t5 h:=
 (Eq.trans (z21f (fun t4=>obind (z20 (z5 t5)) fun t5=>z84 both n t2 t3 t4 t5 h) (z7 .i64 t4)) (Eq.trans (z21f (fun t5=>z84 both n t2 t3 t4 t5 h) (ze t5)) rfl))
noncomputable def z12(n:Nat):LSite:=⟨Func.ntmps Try.f77,(y6 (y5 (y6 (y5 (z2a Try.f77))))),[2,3,8,9],fun both=>z97 both n,[2,3,4,5],fun both=>z96 both n⟩
set_option maxRecDepth 20000 in
theorem z284(n:Nat):LSite.ok Try.prog (z12 n) where
 A := fun hc vs h r h2 e0 w0 m0 rd n2 ds => by
   have e:z97 _ n vs h=some (r,h2):=e0;clear e0;unfold z97 at e
   split at e
   ·replace e := z4 e; obtain ⟨t8, c8, e⟩ := e; have c8 := z1a c8; subst c8
    replace e:=z4 e;obtain⟨t9,c9,e⟩:=e;have c9:=z19 c9;subst c9
    exact z254 hc (n:=n) e
   ·cases e
 B := fun hc vs h r h2 e0 w0 m0 rd n2 ds => by
   have e:z96 _ n vs h=some (r,h2):=e0;clear e0;unfold z96 at e
   split at e
   ·replace e := z4 e; obtain ⟨t4, c4, e⟩ := e; have c4 := z1a c4; subst c4
    replace e:=z4 e;obtain⟨t5,c5,e⟩:=e;have c5:=z19 c5;subst c5
    exact z253 hc (n:=n) e
   ·cases e
noncomputable def zf6(both:z4a)(_:Nat)(t0:Bytes)(h:AHeap):R:=
 lett (newH h 81 [.nsl]) fun h_2=>
 lett (newH h_2 3 [.int .i64 0]) fun h_4=>
 callN (both false 87 [z5 t0] h_4) fun r7 h_8=>
 rngK (rngX Try.prog both (Func.ntmps Try.f77) r7 (y6 (y5 (y6 (y5 (z2a Try.f77))))) (Fr.tree [(2,(z13 h)),(3,(z13 h_2)),(7,r7)]) [] h_8) (fun h_11=>
  obind (zc h_11 (z13 h)) fun v20=>
  obind (zc h_11 (z13 h_2)) fun v21=>
  obind (z17 .i64 v21) fun t21=>
  obind (z22 h_11 1 (AV.cells v20) (z13 h)) fun h_18=>
  chk (z86 Try.prog h_18 3 (z13 h_2) (.int .i64 t21)&&(true&&true))<|
  obind (z22 h_18 1 [.int .i64 t21] (z13 h_2)) fun h_21=>
  z269 (dmark (AHeap.next h_8)::[]) h_21 fun h_23=>
  obind (zc h_23 (z13 h)) fun w2=>
  obind (zc h_23 (z13 h_2)) fun w3=>
  some (.ret (.tup [w2,w3]),h_23)) (fun _=>
  none) (fun _ _=>
  none)
set_option maxHeartbeats 4000000 in
set_option maxRecDepth 20000 in
theorem z362{both:z4a}(hc:BothAll Try.prog both){n:Nat}{t0:Bytes}{h:AHeap}{rR:ARes}{hR:AHeap}(hF:zf6 both n t0 h=some (rR,hR)):Says Try.prog 77 [z5 t0] h rR hR:=by
 unfold zf6 at hF;refine z42e (fn:=Try.f77) Try.func77 (c:=z2a Try.f77) (by kernel_rfl) (by kernel_rfl) (fun w0 m0=>WR.weaken (l':=[(0,z5 t0)]) (yc (by kernel_rfl) (y11 _)) (WR.seqK (by kernel_rfl) (fun K1 n1 e1 q1 p1=>WR.region (by kernel_rfl) ?_)))
 replace hF:=z6 hF;obtain⟨h_2,e3,hF⟩:=hF
 refine WLR.val (d:=(some 2)) (v:=(z13 h)) (h':=h_2) (by kernel_rfl) (by kernel_rfl) (z3ed e3 (by kernel_rfl)) ?_
 replace hF:=z6 hF;obtain⟨h_4,e5,hF⟩:=hF
 refine WLR.val (d:=(some 3)) (v:=(z13 h_2)) (h':=h_4) (by kernel_rfl) (by kernel_rfl) (z3ed e5 (by kernel_rfl)) (WLR.nil (by kernel_rfl) (Go.weaken (l':=[(0,z5 t0),(2,(z13 h)),(3,(z13 h_2))]) (yc (by kernel_rfl) (yc (by kernel_rfl) (yc (by kernel_rfl) (y11 _)))) (n1 (WR.seqK (by kernel_rfl) (fun K6 n6 e6 q6 p6=>WR.seqK (by kernel_rfl) (fun K7 n7 e7 q7 p7=>WR.region (by kernel_rfl) (WLR.val (d:=(some 6)) (v:=z5 t0) (h':=h_4) (by kernel_rfl) (by kernel_rfl) (by kernel_rfl) ?_)))))))
 replace hF:=z18 hF;obtain⟨r7,h_8,e9,hF⟩:=hF
 refine WLR.call (hc.says.ok w0) (d:=(some 7)) (by kernel_rfl) (by kernel_rfl) (by kernel_rfl) e9 (WLR.nil (by kernel_rfl) (Go.weaken (l':=[(2,(z13 h)),(3,(z13 h_2)),(7,r7)]) (yc (by kernel_rfl) (yc (by kernel_rfl) (yc (by kernel_rfl) (y11 _)))) (n7 (WR.blockK (by kernel_rfl) (fun K10 n10 s10 o10 q10 p10=>WR.rng hc hF (fun h_11 hF=>?_) (fun h_12 hF=>?_) (fun id h_13 hF=>?_))))))
 ·skip
  refine n10 (n6 (WR.seqK (by kernel_rfl) (fun K14 n14 e14 q14 p14=>WR.draw (by kernel_rfl) (hc.says.ok w0) (plan:=[0,1,2,3]) (by kernel_rfl) (by kernel_rfl) (by kernel_rfl) ?_)))
  replace hF:=z4 hF;obtain⟨v20,e15,hF⟩:=hF
  refine WD.val (d:=(some 20)) (v:=v20) (h':=h_11) (by kernel_rfl) (by kernel_rfl) (Eq.trans (by kernel_rfl) (z14 (P:=Try.prog) (h:=h_11) (t:=81) (by kernel_rfl) e15)) (k:=1) (by kernel_rfl) (fun e=>absurd e (by decide)) (by decide) ?_
  replace hF:=z4 hF;obtain⟨v21,e16,hF⟩:=hF
  replace hF:=z4 hF;obtain⟨t21,c17,hF⟩:=hF
  have c17:=z1a c17;subst c17;refine WD.val (d:=(some 21)) (v:=.int .i64 t21) (h':=h_11) (by kernel_rfl) (by kernel_rfl) (Eq.trans (by kernel_rfl) (z14 (P:=Try.prog) (h:=h_11) (t:=3) (by kernel_rfl) e16)) (k:=1) (by kernel_rfl) (fun e=>absurd e (by decide)) (by decide) ?_
  replace hF:=z4 hF;obtain⟨h_18,e19,hF⟩:=hF
  replace hF:=z74 hF;obtain⟨k20,hF⟩:=hF
  refine WD.eff (h':=h_18) (by kernel_rfl) (by kernel_rfl) (Eq.trans (by kernel_rfl) (z55 (P:=Try.prog) (h:=h_11) (t:=81) (v:=v20) (by kernel_rfl) (by kernel_rfl) e19)) (k:=2) (by kernel_rfl) (fun _=>(Eq.trans (by kernel_rfl) k20)) (by decide) ?_
  replace hF:=z4 hF;obtain⟨h_21,e22,hF⟩:=hF
  refine WD.eff (h':=h_21) (by kernel_rfl) (by kernel_rfl) (Eq.trans (by kernel_rfl) (z55 (P:=Try.prog) (h:=h_18) (t:=3) (v:=(.int .i64 t21)) (by kernel_rfl) (by kernel_rfl) e22)) (k:=2) (by kernel_rfl) (fun _=>(by kernel_rfl)) (by decide) (WD.nil (Go.weaken (l':=[(2,(z13 h)),(3,(z13 h_2))]) (yc (by kernel_rfl) (yc (by kernel_rfl) (y11 _))) (n14 (WR.ret (by kernel_rfl) (y44 hF (fun h_23 hF=>?_))))))
  replace hF:=z4 hF;obtain⟨w2,e24,hF⟩:=hF
  replace hF:=z4 hF;obtain⟨w3,e25,hF⟩:=hF
  obtain⟨hF,hF2⟩:=z24c hF;subst hF;subst hF2;exact ret_of (rs:=[.cell 2 81,.cell 3 3]) (vs:=[w2,w3]) (by kernel_rfl) (z288 (by kernel_rfl) (z14 (P:=Try.prog) (h:=h_23) (t:=81) (by kernel_rfl) e24) (z288 (by kernel_rfl) (z14 (P:=Try.prog) (h:=h_23) (t:=3) (by kernel_rfl) e25) zd)) (by kernel_rfl)
 ·skip
  cases hF
 ·skip
  cases hF
noncomputable def z10b(both:z4a)(n:Nat):FnT:=fun args h=>match args with
 |[x0]=>obind (z20 x0) fun t0=>zf6 both n t0 h
 |_=>none
set_option maxRecDepth 100000 in
theorem z283(both:z4a)(n:Nat)(t0:Bytes)(h:AHeap):z10b both n [z5 t0] h=zf6 both n t0 h:=
 (Eq.trans (z21f (fun t0=>zf6 both n t0 h) (ze t0)) rfl)
theorem z282{both:z4a}(hc:BothAll Try.prog both)(n:Nat):z376 Try.prog 77 (z10b both n):=by
 intro args h r h2 e;unfold z10b at e
 split at e
 ·replace e := z4 e; obtain ⟨t0, c0, e⟩ := e; have c0 := z19 c0; subst c0
  exact z362 hc (n:=n) e
 ·cases e
noncomputable def z156(call:z10)(_:Nat)(t0:Bytes)(h:AHeap):R:=lett (newH h 39 [.int .i64 0,.int .i64 0]) fun h_2=>callN (call 77 [z5 t0] h_2) fun r10 h_5=>obind (z166 0 r10) fun v11=>obind (z166 1 r10) fun v12=>obind (z17 .i64 v12) fun _=>obind (z12d v11) fun t14=>lett ((t14:Int) == 0) fun (t15:Bool)=>lett (fun (t22:Bool) (h_14:AHeap)=>ifB t22 (obind (z22 h_14 2 ([.int .i64 0,.int .i64 0]:List AV) (z13 h)) fun h_18=>obind (z2c h_18 2 (z13 h)) fun w2=>some (.ret (.tup [.agg w2,z5 ([]:Bytes),.bool false]),h_18)) (obind (z150 1 v11 0) fun t25=>obind (zc h_14 t25) fun v26=>obind (z20 v26) fun t26=>obind (z43 t26 8 (z3b t26)) fun t27=>callN (call 78 [z5 t27] h_14) fun r28 h_26=>callN (call 79 [r28] h_26) fun r30 h_29=>obind (z17 .u64 r30) fun t30=>lett (IntKind.i64.wrap t30) fun (t31:Int)=>callN (call 79 [r28] h_29) fun r33 h_33=>obind (z17 .u64 r33) fun t33=>lett (IntKind.i64.wrap t33) fun (t34:Int)=>obind (z22 h_33 2 ([.int .i64 t31,.int .i64 t34]:List AV) (z13 h)) fun h_37=>outK (z90 Try.prog h_37 81 v11 (some (.int .i64 1)) none) fun v37 h_40=>callK (call 80 [v37,z5 ([]:Bytes)] h_40) fun r38 h_42=>obind (z20 r38) fun t38=>obind (z2c h_42 2 (z13 h)) fun t39=>callN (call 41 [.agg t39] h_42) fun r40 h_48=>obind (z33 r40) fun t40=>lett (!t40) fun (t41:Bool)=>lett (fun (t46:Bool) (h_52:AHeap)=>lett (fun (t53:Bool) (h_55:AHeap)=>ifB t53 (obind (z22 h_55 2 ([.int .i64 0,.int .i64 0]:List AV) (z13 h)) fun h_59=>obind (z2c h_59 2 (z13 h)) fun w2_62=>some (.ret (.tup [.agg w2_62,z5 ([]:Bytes),.bool false]),h_59)) (obind (z2c h_55 2 (z13 h)) fun t55=>obind (z22 h_55 2 t55 (z13 h)) fun h_65=>obind (z2c h_65 2 (z13 h)) fun w2_68=>some (.ret (.tup [.agg w2_68,z5 t38,.bool true]),h_65))) fun j53=>ifB t46 (j53 true h_52) (obind (z2c h_52 2 (z13 h)) fun t48=>callN (call 43 [.agg t48,z5 t38] h_52) fun r50 h_70=>obind (z20 r50) fun t50=>lett (!eqS t50 t0) fun (t52:Bool)=>j53 t52 h_70)) fun j46=>ifB t41 (j46 true h_48) (lett (decide ((z3b t38)>262144)) fun (t45:Bool)=>j46 t45 h_48))) fun j22=>ifB t15 (j22 true h_5) (obind (z150 1 v11 0) fun t18=>obind (zc h_5 t18) fun v19=>obind (z20 v19) fun t19=>callN (call 32 [z5 t19,z5 ([115,110,97,112,115,104,111,116]:Bytes)] h_5) fun r20 h_79=>obind (z33 r20) fun t20=>lett (!t20) fun (t21:Bool)=>j22 t21 h_79)
set_option maxHeartbeats 4000000 in
set_option maxRecDepth 20000 in
theorem z394{call:z10}(hc:SaysAll Try.prog call){n:Nat}{t0:Bytes}{h:AHeap}{rR:ARes}{hR:AHeap}(hF:z156 call n t0 h=some (rR,hR)):Says Try.prog 61 [z5 t0] h rR hR:=by
 unfold z156 at hF;refine sO Try.func61 fun w0 m0=>wW [(0,z5 t0)] (oG fun n1=>W.r (oN 2 hF fun h_2 hF=>oA 3 (z5 ([]:Bytes)) (oA 4 (.bool false) (oV [(0,z5 t0),(2,(z13 h))] (n1 (oG fun n4=>W.r (oA 9 (z5 t0) (oC hc (some 10) hF fun r10 h_5 hF=>oA 8 r10 (oE 11 hF fun v11 hF=>oEi 12 hF fun t12 hF=>oA 5 v11 (oA 6 (.int .i64 t12) (oV [(0,z5 t0),(2,(z13 h)),(5,v11)] (n4 (oH fun n10 q10=>W.s (fun K11 n11 e11 q11 p11=>W.r (oA 13 v11 (oM 14 81 9 hF fun t14 hF=>oB 15 hF fun t15 hF=>oA 16 (.bool t15) ?_))))))))))))))));obtain⟨j22,e15,hF⟩:=z6 hF
 have J16:∀(t22:Bool) (h_14:AHeap),j22 t22 h_14=some (rR,hR)→WL Try.prog w0 m0 (Func.ntmps Try.f61) (Code.ops (y6 (y6 (y5 (y5 (z2a Try.f61)))))) 10 K11 [(0,z5 t0),(2,(z13 h)),(5,v11),(22,.bool t22)] [] h_14:=by
  intro t22 h_14 hF;rw[e15] at hF;refine oV [(0,z5 t0),(2,(z13 h)),(5,v11),(22,.bool t22)] (n11 ?_)
  cases t22 with
  |true=>
   refine oT hF fun hF=>oG fun n17=>W.r (oA 23 (.agg ([.int .i64 0,.int .i64 0]:List AV)) (oW 39 (.agg ([.int .i64 0,.int .i64 0]:List AV)) hF fun h_18 hF=>oA 3 (z5 ([]:Bytes)) (oA 4 (.bool false) (oV [(2,(z13 h)),(3,z5 ([]:Bytes)),(4,.bool false)] (n17 (oY (q10 ?_)))))));obtain⟨w2,e20,hF⟩:=z4 hF;exact lZ hF [.cell 2 39,.tmp 3,.tmp 4] [.agg w2,z5 ([]:Bytes),.bool false] (rY e20 (rT (rT zd)))
  |false=>
   refine oU hF fun hF=>oZ (n10 (oG fun n21=>W.r (oA 24 v11 (oP 25 81 9 .i64 hF fun t25 hF=>oLs 26 9 hF fun t26 hF=>?_))));obtain⟨t27,e25,hF⟩:=z4 hF;refine WL.b (some 27) (z5 t27) h_14 (z48 (P:=Try.prog) (h:=h_14) (t:=9) (A:=(some (.int .i64 8))) (B:=none) (by kernel_rfl) (.inl ⟨_,rfl⟩) (.inr ⟨rfl,rfl⟩) e25) (oC hc (some 28) hF fun r28 h_26 hF=>oA 7 r28 (oV [(0,z5 t0),(2,(z13 h)),(5,v11),(7,r28)] (n21 (oG fun n28=>W.r (oA 29 r28 (oCi hc 30 hF fun t30 h_29 hF=>oI 31 .i64 hF fun t31 hF=>oA 32 r28 (oCi hc 33 hF fun t33 h_33 hF=>oI 34 .i64 hF fun t34 hF=>oA 35 (.agg ([.int .i64 t31,.int .i64 t34]:List AV)) (oW 39 (.agg ([.int .i64 t31,.int .i64 t34]:List AV)) hF fun h_37 hF=>oV [(0,z5 t0),(2,(z13 h)),(5,v11)] (n28 (oJ fun n39 p39=>W.r (oA 36 v11 (oK 37 hF fun v37 h_40 hF=>oCK hc (some 38) hF (fun q=>p39 (Pf q)) fun r38 h_42 hF=>?_))))))))))))
   replace hF:=z4 hF;obtain⟨t38,c44,hF⟩:=hF
   have c44:=z19 c44;subst c44;refine oA 3 (z5 t38) (oV [(0,z5 t0),(2,(z13 h)),(3,z5 t38)] (n39 (oH fun n45 q45=>W.s (fun K46 n46 e46 q46 p46=>W.r (oR 39 39 hF fun t39 hF=>oCb hc 40 hF fun t40 h_48 hF=>oB 41 hF fun t41 hF=>oA 42 (.bool t41) ?_)))));obtain⟨j46,e53,hF⟩:=z6 hF
   have J54:∀(t46:Bool) (h_52:AHeap),j46 t46 h_52=some (rR,hR)→WL Try.prog w0 m0 (Func.ntmps Try.f61) (Code.ops (y6 (y6 (y5 (y5 (y5 (y5 (y5 (y5 (z2a Try.f61)))))))))) 8 K46 [(0,z5 t0),(2,(z13 h)),(3,z5 t38),(46,.bool t46)] [] h_52:=by
    intro t46 h_52 hF;rw[e53] at hF;refine oA 47 (.bool t46) ?_;obtain⟨j53,e56,hF⟩:=z6 hF
    have J57:∀(t53:Bool) (h_55:AHeap),j53 t53 h_55=some (rR,hR)→WL Try.prog w0 m0 (Func.ntmps Try.f61) (Code.ops (y6 (y6 (y5 (y5 (y5 (y5 (y5 (y5 (z2a Try.f61)))))))))) 15 K46 [(2,(z13 h)),(3,z5 t38),(53,.bool t53)] [] h_55:=by
     intro t53 h_55 hF;rw[e56] at hF;refine oV [(2,(z13 h)),(3,z5 t38),(53,.bool t53)] (n46 ?_)
     cases t53 with
     |true=>
      refine oT hF fun hF=>oG fun n58=>W.r (oA 54 (.agg ([.int .i64 0,.int .i64 0]:List AV)) (oW 39 (.agg ([.int .i64 0,.int .i64 0]:List AV)) hF fun h_59 hF=>oA 3 (z5 ([]:Bytes)) (oA 4 (.bool false) (oV [(2,(z13 h)),(3,z5 ([]:Bytes)),(4,.bool false)] (n58 (oY (q45 ?_)))))));obtain⟨w2_62,e61,hF⟩:=z4 hF;exact lZ hF [.cell 2 39,.tmp 3,.tmp 4] [.agg w2_62,z5 ([]:Bytes),.bool false] (rY e61 (rT (rT zd)))
     |false=>
      refine oU hF fun hF=>oZ (n45 (oG fun n63=>W.r (oR 55 39 hF fun t55 hF=>oA 56 (z5 t38) (oW 39 (.agg t55) hF fun h_65 hF=>oA 3 (z5 t38) (oA 4 (.bool true) (oV [(2,(z13 h)),(3,z5 t38),(4,.bool true)] (n63 (oY ?_))))))));obtain⟨w2_68,e67,hF⟩:=z4 hF;exact lZ hF [.cell 2 39,.tmp 3,.tmp 4] [.agg w2_68,z5 t38,.bool true] (rY e67 (rT (rT zd)))
    cases t46 with
    |true=>
     replace hF:=z4f hF
     exact WL.o (some 48) (WL.o (some 49) (WL.o (some 50) (WL.o (some 51) (WL.o (some 52) (oA 53 (.bool true) (lW _ (J57 _ _ hF)))))))
    |false=>
     replace hF:=z50 hF
     exact oR 48 39 hF fun t48 hF=>oA 49 (z5 t38) (oCs hc 50 hF fun t50 h_70 hF=>oA 51 (z5 t0) (oB 52 hF fun t52 hF=>oA 53 (.bool t52) (lW _ (J57 _ _ hF))))
   cases t41 with
   |true=>
    replace hF:=z4f hF
    exact WL.o (some 43) (WL.o (some 44) (WL.o (some 45) (oA 46 (.bool true) (lW _ (J54 _ _ hF)))))
   |false=>
    replace hF:=z50 hF
    exact oA 43 (z5 t38) (oA 44 (.int .i64 (z3b t38)) (oB 45 hF fun t45 hF=>oA 46 (.bool t45) (lW _ (J54 _ _ hF))))
 cases t15 with
 |true=>
  replace hF:=z4f hF
  exact WL.o (some 17) (WL.o (some 18) (WL.o (some 19) (WL.o (some 20) (WL.o (some 21) (oA 22 (.bool true) (lW _ (J16 _ _ hF)))))))
 |false=>
  replace hF:=z50 hF
  exact oA 17 v11 (oP 18 81 9 .i64 hF fun t18 hF=>oLs 19 9 hF fun t19 hF=>oCb hc 20 hF fun t20 h_79 hF=>oB 21 hF fun t21 hF=>oA 22 (.bool t21) (lW _ (J16 _ _ hF)))
noncomputable def zfe(call:z10)(t0:AV)(h_2:AHeap)(k13:AHeap→R)(self:Int→AHeap→R)(t11:Int)(h_21:AHeap):R:=lett (decide (t11<2)) fun (t12:Bool)=>ifB t12 (obind (z169 2 5 (z13 h_2) t11) fun t15=>obind (z53 t15) fun t19=>obind (z27 0 t19) fun t20=>obind (zc h_21 t20) fun v21=>obind (z17 .i64 v21) fun t21=>callN (call 60 [t0,.int .i64 t21] h_21) fun r22 h_35=>obind (z166 0 r22) fun v23=>obind (z20 v23) fun t23=>obind (z166 1 r22) fun v24=>obind (z17 .i64 v24) fun t24=>lett ((t24:Int) == 0) fun (t26:Bool)=>lett (fun (h_44:AHeap)=>lett (IntKind.i64.wrap (t11+1)) fun (t42:Int)=>self t42 h_44) fun k43=>ifB t26 (callK (call 61 [z5 t23] h_35) fun r32 h_46=>obind (z166 0 r32) fun v33=>obind (z146 v33) fun t33=>obind (z166 1 r32) fun v34=>obind (z20 v34) fun t34=>obind (z166 2 r32) fun v35=>obind (z33 v35) fun t35=>obind (z53 t15) fun t36=>obind (z27 2 t36) fun t37=>obind (z22 h_46 2 t33 t37) fun h_56=>obind (z53 t15) fun t38=>obind (z27 4 t38) fun t39=>obind (z22 h_56 1 [z5 t34] t39) fun h_60=>obind (z53 t15) fun t40=>obind (z27 1 t40) fun t41=>obind (z22 h_60 1 [.bool t35] t41) fun h_64=>k43 h_64) (k43 h_35)) (k13 h_21)
noncomputable def z66(call:z10)(t0:AV)(h_2:AHeap)(k13:AHeap→R):Nat→Int→AHeap→R:=z122 (fun _ _=>none) (zfe call t0 h_2 k13)
theorem z171(call:z10)(t0:AV)(h_2:AHeap)(k13:AHeap→R)(m:Nat):z66 call t0 h_2 k13 (m+1)=zfe call t0 h_2 k13 (z66 call t0 h_2 k13 m):=rfl
noncomputable def z157(call:z10)(n:Nat)(t0:AV)(h:AHeap):R:=lett (newH h 110 [.int .i64 0,.bool false,.int .i64 0,.int .i64 0,.str 0 0,.int .i64 0,.bool false,.int .i64 0,.int .i64 0,.str 0 0]) fun h_2=>obind (z45d Try.prog 110 [(0,.agg ([.int .i64 2,.bool false,.int .i64 0,.int .i64 0,.str 0 0]:List AV)),(1,.agg ([.int .i64 3,.bool false,.int .i64 0,.int .i64 0,.str 0 0]:List AV))]) fun t10=>lett (newH h_2 110 [.int .i64 0,.bool false,.int .i64 0,.int .i64 0,.str 0 0,.int .i64 0,.bool false,.int .i64 0,.int .i64 0,.str 0 0]) fun h_6=>obind (z22 h_6 10 t10 (z13 h_2)) fun h_8=>lett (fun (h_14:AHeap)=>obind (z2c h_14 10 (z13 h_2)) fun t43=>obind (z22 h_14 10 t43 (z13 h)) fun h_17=>obind (z2c h_17 10 (z13 h)) fun w2=>some (.ret (.agg w2),h_17)) fun k13=>z66 call t0 h_2 k13 n 0 h_8
set_option maxHeartbeats 4000000 in
set_option maxRecDepth 20000 in
theorem z395{call:z10}(hc:SaysAll Try.prog call){n:Nat}{t0:AV}{h:AHeap}{rR:ARes}{hR:AHeap}(hF:z157 call n t0 h=some (rR,hR)):Says Try.prog 39 [t0] h rR hR:=by
 unfold z157 at hF;refine sO Try.func39 fun w0 m0=>wW [(0,t0)] (oG fun n1=>W.r (oN 2 hF fun h_2 hF=>oV [(0,t0),(2,(z13 h))] (n1 (oG fun n4=>W.r (oA 8 (.agg ([.int .i64 2,.bool false,.int .i64 0,.int .i64 0,.str 0 0]:List AV)) (oA 9 (.agg ([.int .i64 3,.bool false,.int .i64 0,.int .i64 0,.str 0 0]:List AV)) ?_))))));obtain⟨t10,e5,hF⟩:=z4 hF;refine WL.val (d:=(some 10)) (v:=.agg t10) (h':=h_2) (by kernel_rfl) (by kernel_rfl) (z32c (by kernel_rfl) e5) (oN 3 hF fun h_6 hF=>oW 110 (.agg t10) hF fun h_8 hF=>oV [(0,t0),(2,(z13 h)),(3,(z13 h_2))] (n4 (W.s (fun K10 n10 e10 q10 p10=>oG fun n11=>W.r (oA 11 (.int .i64 0) (oV [(0,t0),(2,(z13 h)),(3,(z13 h_2)),(11,.int .i64 0)] (n11 ?_)))))));obtain⟨k13,e13,hF⟩:=z6 hF
 have J13:∀(h_14:AHeap),k13 h_14=some (rR,hR)→Go w0 m0 (Func.ntmps Try.f39) (K10 .normal) [(2,(z13 h)),(3,(z13 h_2))] [] h_14:=by
  intro h_14 hF;rw[e13] at hF;refine n10 (oG fun n15=>W.r (oR 43 110 hF fun t43 hF=>oW 110 (.agg t43) hF fun h_17 hF=>oV [(2,(z13 h))] (n15 (oY ?_))));obtain⟨w2,e19,hF⟩:=z4 hF;exact lZ hF [.cell 2 110] [.agg w2] (rY e19 zd)
 refine W.blockK (by kernel_rfl) (fun K12 n12 s12 o12 q12 p12=>W.loopK (by kernel_rfl) (fun I20 K20 b20 n20 e20 q20 p20=>?_))
 have L20:∀(m:Nat) (t11:Int) (h_21:AHeap),z66 call t0 h_2 k13 m t11 h_21=some (rR,hR)→Go w0 m0 (Func.ntmps Try.f39) I20 [(0,t0),(2,(z13 h)),(3,(z13 h_2)),(11,.int .i64 t11)] [] h_21:=by
  intro m
  induction m with
  |zero=>intro t11 h_21 hF;cases hF
  |succ m ih20=>
   intro t11 h_21 hF;rw[z171] at hF;unfold zfe at hF;refine b20 (oG fun n22=>W.r (oB 12 hF fun t12 hF=>oV [(0,t0),(2,(z13 h)),(3,(z13 h_2)),(11,.int .i64 t11),(12,.bool t12)] (n22 (W.s (fun K24 n24 e24 q24 p24=>?_)))))
   cases t12 with
   |true=>
    refine oT hF fun hF=>oZ (n24 (oJ fun n25 p25=>W.blockK (by kernel_rfl) (fun K26 n26 s26 o26 q26 p26=>oG fun n27=>W.r (oA 13 (.int .i64 t11) (oA 4 (.int .i64 t11) (oV [(0,t0),(2,(z13 h)),(3,(z13 h_2)),(4,.int .i64 t11),(11,.int .i64 t11)] (n27 (oG fun n28=>W.r (oA 14 (.int .i64 t11) (oQ 15 110 109 .i64 hF fun t15 hF=>oA 5 t15 (oV [(0,t0),(2,(z13 h)),(3,(z13 h_2)),(5,t15),(11,.int .i64 t11)] (n28 (oG fun n30=>W.r (oA 17 t0 (oA 18 t15 (oC0 19 hF fun t19 hF=>oF 20 109 0 hF fun t20 hF=>oLi 21 3 hF fun t21 hF=>oC hc (some 22) hF fun r22 h_35 hF=>oA 16 r22 (oEs 23 hF fun t23 hF=>oEi 24 hF fun t24 hF=>oA 6 (z5 t23) (oA 7 (.int .i64 t24) (oV [(0,t0),(2,(z13 h)),(3,(z13 h_2)),(5,t15),(6,z5 t23),(7,.int .i64 t24),(11,.int .i64 t11)] (n30 (oG fun n41=>W.r (oA 25 (.int .i64 t24) (oB 26 hF fun t26 hF=>oV [(0,t0),(2,(z13 h)),(3,(z13 h_2)),(5,t15),(6,z5 t23),(11,.int .i64 t11),(26,.bool t26)] (n41 ?_))))))))))))))))))))))));obtain⟨k43,e43,hF⟩:=z6 hF
    have J43:∀(h_44:AHeap),k43 h_44=some (rR,hR)→Go w0 m0 (Func.ntmps Try.f39) (K26 .normal) [(0,t0),(2,(z13 h)),(3,(z13 h_2)),(11,.int .i64 t11)] [] h_44:=by
     intro h_44 hF;rw[e43] at hF;exact n26 (n25 (W.r (oI 42 .i64 hF fun t42 hF=>oA 11 (.int .i64 t42) (oV [(0,t0),(2,(z13 h)),(3,(z13 h_2)),(11,.int .i64 t42)] (n20 (gW _ (ih20 _ _ hF)))))))
    cases t26 with
    |true=>
     exact oT hF fun hF=>W.r (oA 28 t15 (oA 29 t15 (oA 30 t15 (oA 31 (z5 t23) (oCK hc (some 32) hF (fun q=>p26 (p25 (p20 (p12 (p10 (Pf q)))))) fun r32 h_46 hF=>oA 27 r32 (oEa 33 hF fun t33 hF=>oEs 34 hF fun t34 hF=>oEb 35 hF fun t35 hF=>oC0 36 hF fun t36 hF=>oF 37 109 2 hF fun t37 hF=>oW 39 (.agg t33) hF fun h_56 hF=>oC0 38 hF fun t38 hF=>oF 39 109 3 hF fun t39 hF=>oW 9 (z5 t34) hF fun h_60 hF=>oC0 40 hF fun t40 hF=>oF 41 109 1 hF fun t41 hF=>oW 4 (.bool t35) hF fun h_64 hF=>oV [(0,t0),(2,(z13 h)),(3,(z13 h_2)),(11,.int .i64 t11)] (gW _ (J43 _ hF))))))))
    |false=>
     exact oU hF fun hF=>oZ (gW _ (J43 _ hF))
   |false=>
    exact oU hF fun hF=>W.exit (by kernel_rfl) (e24 (e20 (s12 (by kernel_rfl) (gW _ (J13 _ hF)))))
 exact gW _ (L20 _ _ _ hF)
noncomputable def zff(call:z10)(_:Nat)(t0:AV)(h:AHeap):R:=
 lett (newH h 39 [.int .i64 0,.int .i64 0]) fun h_2=>
 callN (call 38 [t0] h_2) fun r9 h_6=>
 obind (z17 .i64 r9) fun t9=>
 lett ((t9:Int) != 0) fun (t11:Bool)=>
 ifB t11
 (
  obind (z22 h_6 2 ([.int .i64 0,.int .i64 0]:List AV) (z13 h)) fun h_12=>
  obind (z2c h_12 2 (z13 h)) fun w2=>
  some (.ret (.tup [.agg w2,z5 ([]:Bytes),.int .i64 t9]),h_12))
 (
  callK (call 39 [t0] h_6) fun r15 h_16=>
  obind (z146 r15) fun t15=>
  lett (newH h_16 110 [.int .i64 0,.bool false,.int .i64 0,.int .i64 0,.str 0 0,.int .i64 0,.bool false,.int .i64 0,.int .i64 0,.str 0 0]) fun h_19=>
  obind (z22 h_19 10 t15 (z13 h_16)) fun h_21=>
  obind (z2c h_21 10 (z13 h_16)) fun t16=>
  callN (call 40 [.agg t16] h_21) fun r17 h_25=>
  obind (z17 .i64 r17) fun t17=>
  obind (z169 2 5 (z13 h_16) t17) fun t18=>
  obind (z2c h_25 5 t18) fun t19=>
  lett (newH h_25 109 [.int .i64 0,.bool false,.int .i64 0,.int .i64 0,.str 0 0]) fun h_30=>
  obind (z22 h_30 5 t19 (z13 h_25)) fun h_32=>
  obind (zc h_32 (AV.ptr (AHeap.next h_25) 1)) fun v21=>
  obind (z33 v21) fun t21=>
  lett (!t21) fun (t22:Bool)=>
  ifB t22
  (
   obind (z22 h_32 2 ([.int .i64 0,.int .i64 0]:List AV) (z13 h)) fun h_40=>
   obind (z2c h_40 2 (z13 h)) fun w2_43=>
   some (.ret (.tup [.agg w2_43,z5 ([]:Bytes),.int .i64 4]),h_40))
  (
   obind (z2c h_32 2 (AV.ptr (AHeap.next h_25) 2)) fun t25=>
   obind (zc h_32 (AV.ptr (AHeap.next h_25) 4)) fun v27=>
   obind (z20 v27) fun t27=>
   obind (z22 h_32 2 t25 (z13 h)) fun h_48=>
   chk (z86 Try.prog h_48 9 (AV.ptr (AHeap.next h_25) 4) (z5 t27)&&(true&&true))<|
   obind (z2c h_48 2 (z13 h)) fun w2_52=>
   some (.ret (.tup [.agg w2_52,z5 t27,.int .i64 0]),h_48)))
set_option maxHeartbeats 4000000 in
set_option maxRecDepth 20000 in
theorem z398{call:z10}(hc:SaysAll Try.prog call){n:Nat}{t0:AV}{h:AHeap}{rR:ARes}{hR:AHeap}(hF:zff call n t0 h=some (rR,hR)):Says Try.prog 14 [t0] h rR hR:=by
 unfold zff at hF;refine sO Try.func14 fun w0 m0=>wW [(0,t0)] (oG fun n1=>W.r (oN 2 hF fun h_2 hF=>oA 3 (z5 ([]:Bytes)) (oA 4 (.int .i64 0) (oV [(0,t0),(2,(z13 h))] (n1 (oH fun n4 q4=>oG fun n5=>W.r (oA 8 t0 (oCi hc 9 hF fun t9 h_6 hF=>oA 5 (.int .i64 t9) (oV [(0,t0),(2,(z13 h)),(5,.int .i64 t9)] (n5 (oG fun n9=>W.r (oA 10 (.int .i64 t9) (oB 11 hF fun t11 hF=>oV [(0,t0),(2,(z13 h)),(5,.int .i64 t9),(11,.bool t11)] (n9 ?_))))))))))))))
 cases t11 with
 |true=>
  refine oT hF fun hF=>oG fun n11=>W.r (oA 12 (.agg ([.int .i64 0,.int .i64 0]:List AV)) (oA 13 (.int .i64 t9) (oW 39 (.agg ([.int .i64 0,.int .i64 0]:List AV)) hF fun h_12 hF=>oA 3 (z5 ([]:Bytes)) (oA 4 (.int .i64 t9) (oV [(2,(z13 h)),(3,z5 ([]:Bytes)),(4,.int .i64 t9)] (n11 (oY (q4 ?_))))))));obtain⟨w2,e14,hF⟩:=z4 hF;exact lZ hF [.cell 2 39,.tmp 3,.tmp 4] [.agg w2,z5 ([]:Bytes),.int .i64 t9] (rY e14 (rT (rT zd)))
 |false=>
  refine oU hF fun hF=>oZ (n4 (oJ fun n15 p15=>W.r (oA 14 t0 (oCK hc (some 15) hF (fun q=>p15 (Pf q)) fun r15 h_16 hF=>?_))))
  replace hF:=z4 hF;obtain⟨t15,c18,hF⟩:=hF
  have c18:=zcb c18;subst c18;refine oN 6 hF fun h_19 hF=>oW 110 (.agg t15) hF fun h_21 hF=>oV [(2,(z13 h)),(6,(z13 h_16))] (n15 (oG fun n23=>W.r (oR 16 110 hF fun t16 hF=>oCi hc 17 hF fun t17 h_25 hF=>oQ 18 110 109 .i64 hF fun t18 hF=>oR 19 109 hF fun t19 hF=>oN 7 hF fun h_30 hF=>oW 109 (.agg t19) hF fun h_32 hF=>oV [(2,(z13 h)),(7,(z13 h_25))] (n23 (oH fun n34 q34=>oG fun n35=>W.r (oA 20 (AV.ptr (AHeap.next h_25) 1) (oLb 21 4 hF fun t21 hF=>oB 22 hF fun t22 hF=>oV [(2,(z13 h)),(7,(z13 h_25)),(22,.bool t22)] (n35 ?_))))))))
  cases t22 with
  |true=>
   refine oT hF fun hF=>oG fun n39=>W.r (oA 23 (.agg ([.int .i64 0,.int .i64 0]:List AV)) (oW 39 (.agg ([.int .i64 0,.int .i64 0]:List AV)) hF fun h_40 hF=>oA 3 (z5 ([]:Bytes)) (oA 4 (.int .i64 4) (oV [(2,(z13 h)),(3,z5 ([]:Bytes)),(4,.int .i64 4)] (n39 (oY (q34 ?_)))))));obtain⟨w2_43,e42,hF⟩:=z4 hF;exact lZ hF [.cell 2 39,.tmp 3,.tmp 4] [.agg w2_43,z5 ([]:Bytes),.int .i64 4] (rY e42 (rT (rT zd)))
  |false=>
   refine oU hF fun hF=>oZ (n34 (oG fun n44=>W.draw (by kernel_rfl) (hc.ok w0) (plan:=[0,1,2,3,4,5,6]) (by kernel_rfl) (by kernel_rfl) (by kernel_rfl) (WD.a 0 (some 24) (AV.ptr (AHeap.next h_25) 2) h_32 ?_)));obtain⟨t25,e45,hF⟩:=z4 hF;refine WD.b 1 (some 25) (.agg t25) h_32 (z64 (P:=Try.prog) (h:=h_32) (t:=39) (by kernel_rfl) (by kernel_rfl) e45) (WD.a 0 (some 26) (AV.ptr (AHeap.next h_25) 4) h_32 ?_)
   replace hF:=z4 hF;obtain⟨v27,e46,hF⟩:=hF
   replace hF:=z4 hF;obtain⟨t27,c47,hF⟩:=hF
   have c47:=z19 c47;subst c47;refine WD.b 1 (some 27) (z5 t27) h_32 (z14 (P:=Try.prog) (h:=h_32) (t:=9) (by kernel_rfl) e46) ?_;obtain⟨h_48,e49,hF⟩:=z4 hF;obtain⟨k50,hF⟩:=z74 hF;refine WD.eff (h':=h_48) (by kernel_rfl) (by kernel_rfl) (Eq.trans (by kernel_rfl) (z55 (P:=Try.prog) (h:=h_32) (t:=39) (v:=(.agg t25)) (by kernel_rfl) (by kernel_rfl) e49)) (k:=2) (by kernel_rfl) (fun _=>(Eq.trans (by kernel_rfl) k50)) (by decide) (WD.a 0 (some 3) (z5 t27) h_48 (WD.a 0 (some 4) (.int .i64 0) h_48 (WD.nil (gW [(2,(z13 h)),(3,z5 t27),(4,.int .i64 0)] (n44 (oY ?_))))));obtain⟨w2_52,e51,hF⟩:=z4 hF;exact lZ hF [.cell 2 39,.tmp 3,.tmp 4] [.agg w2_52,z5 t27,.int .i64 0] (rY e51 (rT (rT zd)))
noncomputable def zb8(call:z10)(_:Nat)(t0:AV)(t1:Int)(t2:Bytes)(h:AHeap):R:=callN (call 17 [t0] h) fun r10 h_4=>callN (call 62 [r10,.int .i64 t1] h_4) fun r12 h_6=>obind (z33 r12) fun t12=>lett (fun (h_10:AHeap)=>callN (call 26 [t0,.int .i64 t1,z5 t2] h_10) fun r22 h_13=>obind (z17 .i64 r22) fun t22=>lett ((t22:Int) != 0) fun (t24:Bool)=>ifB t24 (some (.ret (.int .i64 t22),h_13)) (callN (call 64 [t0,.int .i64 t1] h_13) fun r28 h_20=>obind (z17 .i64 r28) fun t28=>some (.ret (.int .i64 t28),h_20))) fun k9=>ifB t12 (callN (call 63 [t0,.int .i64 t1] h_6) fun r15 h_24=>obind (z17 .i64 r15) fun t15=>lett ((t15:Int) != 0) fun (t17:Bool)=>ifB t17 (some (.ret (.int .i64 t15),h_24)) (k9 h_24)) (k9 h_6)
set_option maxHeartbeats 4000000 in
set_option maxRecDepth 20000 in
theorem z29e{call:z10}(hc:SaysAll Try.prog call){n:Nat}{t0:AV}{t1:Int}{t2:Bytes}{h:AHeap}{rR:ARes}{hR:AHeap}(hF:zb8 call n t0 t1 t2 h=some (rR,hR)):Says Try.prog 42 [t0,.int .i64 t1,z5 t2] h rR hR:=by
 unfold zb8 at hF;refine sO Try.func42 fun w0 m0=>wW [(0,t0),(1,.int .i64 t1),(2,z5 t2)] (oG fun n1=>W.r (oA 6 (.int .i64 0) (oV [(0,t0),(1,.int .i64 t1),(2,z5 t2)] (n1 (W.s (fun K2 n2 e2 q2 p2=>oG fun n3=>W.r (oA 9 t0 (oC hc (some 10) hF fun r10 h_4 hF=>oA 11 (.int .i64 t1) (oCb hc 12 hF fun t12 h_6 hF=>oV [(0,t0),(1,.int .i64 t1),(2,z5 t2),(12,.bool t12)] (n3 ?_))))))))));obtain⟨k9,e9,hF⟩:=z6 hF
 have J9:∀(h_10:AHeap),k9 h_10=some (rR,hR)→Go w0 m0 (Func.ntmps Try.f42) (K2 .normal) [(0,t0),(1,.int .i64 t1),(2,z5 t2)] [] h_10:=by
  intro h_10 hF;rw[e9] at hF;refine n2 (oH fun n11 q11=>oG fun n12=>W.r (oA 19 t0 (oA 20 (.int .i64 t1) (oA 21 (z5 t2) (oCi hc 22 hF fun t22 h_13 hF=>oA 8 (.int .i64 t22) (oV [(0,t0),(1,.int .i64 t1),(8,.int .i64 t22)] (n12 (oG fun n16=>W.r (oA 23 (.int .i64 t22) (oB 24 hF fun t24 hF=>oV [(0,t0),(1,.int .i64 t1),(8,.int .i64 t22),(24,.bool t24)] (n16 ?_)))))))))))
  cases t24 with
  |true=>
   exact oT hF fun hF=>oG fun n18=>W.r (oA 25 (.int .i64 t22) (oA 6 (.int .i64 t22) (oV [(6,.int .i64 t22)] (n18 (oY (q11 (lZ hF [.tmp 6] [.int .i64 t22] (rT zd))))))))
  |false=>
   exact oU hF fun hF=>oZ (n11 (oG fun n19=>W.r (oA 26 t0 (oA 27 (.int .i64 t1) (oCi hc 28 hF fun t28 h_20 hF=>oA 6 (.int .i64 t28) (oV [(6,.int .i64 t28)] (n19 (oY (lZ hF [.tmp 6] [.int .i64 t28] (rT zd))))))))))
 cases t12 with
 |true=>
  refine oT hF fun hF=>oG fun n23=>W.r (oA 13 t0 (oA 14 (.int .i64 t1) (oCi hc 15 hF fun t15 h_24 hF=>oA 7 (.int .i64 t15) (oV [(0,t0),(1,.int .i64 t1),(2,z5 t2),(7,.int .i64 t15)] (n23 (oG fun n27=>W.r (oA 16 (.int .i64 t15) (oB 17 hF fun t17 hF=>oV [(0,t0),(1,.int .i64 t1),(2,z5 t2),(7,.int .i64 t15),(17,.bool t17)] (n27 ?_)))))))))
  cases t17 with
  |true=>
   exact oT hF fun hF=>oG fun n29=>W.r (oA 18 (.int .i64 t15) (oA 6 (.int .i64 t15) (oV [(6,.int .i64 t15)] (n29 (oY (q2 (lZ hF [.tmp 6] [.int .i64 t15] (rT zd))))))))
  |false=>
   exact oU hF fun hF=>oZ (gW _ (J9 _ hF))
 |false=>
  exact oU hF fun hF=>oZ (gW _ (J9 _ hF))
noncomputable def z158(call:z10)(_:Nat)(t0:AV)(t1:List AV)(t2:Bytes)(h:AHeap):R:=outK (zd9 h 39 (some (.agg t1))) fun v4 h_2=>callN (call 38 [t0] h_2) fun r12 h_6=>obind (z17 .i64 r12) fun t12=>lett ((t12:Int) != 0) fun (t14:Bool)=>ifB t14 (some (.ret (.int .i64 t12),h_6)) (obind (z2c h_6 2 v4) fun t16=>callN (call 41 [.agg t16] h_6) fun r17 h_15=>obind (z33 r17) fun t17=>lett (!t17) fun (t18:Bool)=>ifB t18 (some (.ret (.int .i64 2),h_15)) (lett (decide ((z3b t2)>262144)) fun (t21:Bool)=>ifB t21 (some (.ret (.int .i64 3),h_15)) (callK (call 39 [t0] h_15) fun r23 h_25=>obind (z146 r23) fun t23=>lett (newH h_25 110 [.int .i64 0,.bool false,.int .i64 0,.int .i64 0,.str 0 0,.int .i64 0,.bool false,.int .i64 0,.int .i64 0,.str 0 0]) fun h_28=>obind (z22 h_28 10 t23 (z13 h_25)) fun h_30=>obind (z2c h_30 10 (z13 h_25)) fun t24=>callN (call 40 [.agg t24] h_30) fun r25 h_34=>obind (z17 .i64 r25) fun t25=>obind (z169 2 5 (z13 h_25) t25) fun t26=>obind (z2c h_34 5 t26) fun t27=>lett (newH h_34 109 [.int .i64 0,.bool false,.int .i64 0,.int .i64 0,.str 0 0]) fun h_39=>obind (z22 h_39 5 t27 (z13 h_34)) fun h_41=>obind (zc h_41 (AV.ptr (AHeap.next h_34) 1)) fun v29=>obind (z33 v29) fun t29=>lett (fun (t37:Bool) (h_47:AHeap)=>ifB t37 (some (.ret (.int .i64 5),h_47)) (obind (z169 2 5 (z13 h_25) 0) fun t38=>obind (z27 0 t38) fun t39=>obind (zc h_47 t39) fun v40=>obind (z17 .i64 v40) fun t40=>obind (zc h_47 (AV.ptr (AHeap.next h_34) 1)) fun v42=>obind (z33 v42) fun t42=>lett (fun (t48:Bool) (h_60:AHeap)=>lett (fun (t10:Int) (h_64:AHeap)=>obind (z2c h_64 2 v4) fun t54=>callN (call 43 [.agg t54,z5 t2] h_64) fun r56 h_67=>obind (z20 r56) fun t56=>callN (call 42 [t0,.int .i64 t10,z5 t56] h_67) fun r57 h_70=>obind (z17 .i64 r57) fun t57=>some (.ret (.int .i64 t57),h_70)) fun k63=>ifB t48 (obind (z169 2 5 (z13 h_25) 1) fun t49=>obind (z27 0 t49) fun t50=>obind (zc h_60 t50) fun v51=>obind (z17 .i64 v51) fun t51=>k63 t51 h_60) (k63 t40 h_60)) fun j48=>ifB t42 (obind (zc h_47 (AV.ptr (AHeap.next h_34) 0)) fun v45=>obind (z17 .i64 v45) fun t45=>lett ((t45:Int) == t40) fun (t47:Bool)=>j48 t47 h_47) (j48 false h_47))) fun j37=>ifB t29 (obind (z27 0 v4) fun t31=>obind (zc h_41 t31) fun v32=>obind (z17 .i64 v32) fun t32=>obind (zc h_41 (AV.ptr (AHeap.next h_34) 2)) fun v35=>obind (z17 .i64 v35) fun t35=>lett (decide (t32≤t35)) fun (t36:Bool)=>j37 t36 h_41) (j37 false h_41))))
set_option maxHeartbeats 4000000 in
set_option maxRecDepth 20000 in
theorem z397{call:z10}(hc:SaysAll Try.prog call){n:Nat}{t0:AV}{t1:List AV}{t2:Bytes}{h:AHeap}{rR:ARes}{hR:AHeap}(hF:z158 call n t0 t1 t2 h=some (rR,hR)):Says Try.prog 15 [t0,.agg t1,z5 t2] h rR hR:=by
 unfold z158 at hF;refine sO Try.func15 fun w0 m0=>wW [(0,t0),(1,.agg t1),(2,z5 t2)] (oG fun n1=>W.r (oK 4 hF fun v4 h_2 hF=>oA 6 (.int .i64 0) (oV [(0,t0),(2,z5 t2),(4,v4)] (n1 (oH fun n4 q4=>oG fun n5=>W.r (oA 11 t0 (oCi hc 12 hF fun t12 h_6 hF=>oA 7 (.int .i64 t12) (oV [(0,t0),(2,z5 t2),(4,v4),(7,.int .i64 t12)] (n5 (oG fun n9=>W.r (oA 13 (.int .i64 t12) (oB 14 hF fun t14 hF=>oV [(0,t0),(2,z5 t2),(4,v4),(7,.int .i64 t12),(14,.bool t14)] (n9 ?_)))))))))))))
 cases t14 with
 |true=>
  exact oT hF fun hF=>oG fun n11=>W.r (oA 15 (.int .i64 t12) (oA 6 (.int .i64 t12) (oV [(6,.int .i64 t12)] (n11 (oY (q4 (lZ hF [.tmp 6] [.int .i64 t12] (rT zd))))))))
 |false=>
  refine oU hF fun hF=>oZ (n4 (oH fun n12 q12=>oG fun n13=>W.r (oR 16 39 hF fun t16 hF=>oCb hc 17 hF fun t17 h_15 hF=>oB 18 hF fun t18 hF=>oV [(0,t0),(2,z5 t2),(4,v4),(18,.bool t18)] (n13 ?_))))
  cases t18 with
  |true=>
   exact oT hF fun hF=>oG fun n19=>W.r (oA 6 (.int .i64 2) (oV [(6,.int .i64 2)] (n19 (oY (q12 (lZ hF [.tmp 6] [.int .i64 2] (rT zd)))))))
  |false=>
   refine oU hF fun hF=>oZ (n12 (oH fun n20 q20=>oG fun n21=>W.r (oA 19 (z5 t2) (oA 20 (.int .i64 (z3b t2)) (oB 21 hF fun t21 hF=>oV [(0,t0),(2,z5 t2),(4,v4),(21,.bool t21)] (n21 ?_))))))
   cases t21 with
   |true=>
    exact oT hF fun hF=>oG fun n23=>W.r (oA 6 (.int .i64 3) (oV [(6,.int .i64 3)] (n23 (oY (q20 (lZ hF [.tmp 6] [.int .i64 3] (rT zd)))))))
   |false=>
    refine oU hF fun hF=>oZ (n20 (oJ fun n24 p24=>W.r (oA 22 t0 (oCK hc (some 23) hF (fun q=>p24 (Pf q)) fun r23 h_25 hF=>?_))))
    replace hF:=z4 hF;obtain⟨t23,c27,hF⟩:=hF
    have c27:=zcb c27;subst c27;refine oN 8 hF fun h_28 hF=>oW 110 (.agg t23) hF fun h_30 hF=>oV [(0,t0),(2,z5 t2),(4,v4),(8,(z13 h_25))] (n24 (oG fun n32=>W.r (oR 24 110 hF fun t24 hF=>oCi hc 25 hF fun t25 h_34 hF=>oQ 26 110 109 .i64 hF fun t26 hF=>oR 27 109 hF fun t27 hF=>oN 9 hF fun h_39 hF=>oW 109 (.agg t27) hF fun h_41 hF=>oV [(0,t0),(2,z5 t2),(4,v4),(8,(z13 h_25)),(9,(z13 h_34))] (n32 (oH fun n43 q43=>W.s (fun K44 n44 e44 q44 p44=>W.r (oA 28 (AV.ptr (AHeap.next h_34) 1) (oLb 29 4 hF fun t29 hF=>oA 30 (.bool t29) ?_))))))));obtain⟨j37,e48,hF⟩:=z6 hF
    have J49:∀(t37:Bool) (h_47:AHeap),j37 t37 h_47=some (rR,hR)→WL Try.prog w0 m0 (Func.ntmps Try.f15) (Code.ops (y6 (y6 (y5 (y5 (y5 (y5 (y5 (y5 (z2a Try.f15)))))))))) 10 K44 [(0,t0),(2,z5 t2),(4,v4),(8,(z13 h_25)),(9,(z13 h_34)),(37,.bool t37)] [] h_47:=by
     intro t37 h_47 hF;rw[e48] at hF;refine oV [(0,t0),(2,z5 t2),(4,v4),(8,(z13 h_25)),(9,(z13 h_34)),(37,.bool t37)] (n44 ?_)
     cases t37 with
     |true=>
      exact oT hF fun hF=>oG fun n50=>W.r (oA 6 (.int .i64 5) (oV [(6,.int .i64 5)] (n50 (oY (q43 (lZ hF [.tmp 6] [.int .i64 5] (rT zd)))))))
     |false=>
      refine oU hF fun hF=>oZ (n43 (oG fun n51=>W.r (oQ 38 110 109 .i64 hF fun t38 hF=>oF 39 109 0 hF fun t39 hF=>oLi 40 3 hF fun t40 hF=>oA 10 (.int .i64 t40) (oV [(0,t0),(2,z5 t2),(4,v4),(8,(z13 h_25)),(9,(z13 h_34)),(10,.int .i64 t40)] (n51 (W.s (fun K56 n56 e56 q56 p56=>W.s (fun K57 n57 e57 q57 p57=>W.r (oA 41 (AV.ptr (AHeap.next h_34) 1) (oLb 42 4 hF fun t42 hF=>oA 43 (.bool t42) ?_))))))))));obtain⟨j48,e61,hF⟩:=z6 hF
      have J62:∀(t48:Bool) (h_60:AHeap),j48 t48 h_60=some (rR,hR)→WL Try.prog w0 m0 (Func.ntmps Try.f15) (Code.ops (y6 (y6 (y5 (y5 (y5 (y5 (y5 (y5 (y5 (y5 (z2a Try.f15)))))))))))) 8 K57 [(0,t0),(2,z5 t2),(4,v4),(8,(z13 h_25)),(10,.int .i64 t40),(48,.bool t48)] [] h_60:=by
       intro t48 h_60 hF;rw[e61] at hF;refine oV [(0,t0),(2,z5 t2),(4,v4),(8,(z13 h_25)),(10,.int .i64 t40),(48,.bool t48)] (n57 ?_);obtain⟨k63,e63,hF⟩:=z6 hF
       have J63:∀(t10:Int) (h_64:AHeap),k63 t10 h_64=some (rR,hR)→Go w0 m0 (Func.ntmps Try.f15) (K56 .normal) [(0,t0),(2,z5 t2),(4,v4),(10,.int .i64 t10)] [] h_64:=by
        intro t10 h_64 hF;rw[e63] at hF;exact n56 (oG fun n65=>W.r (oA 52 t0 (oA 53 (.int .i64 t10) (oR 54 39 hF fun t54 hF=>oA 55 (z5 t2) (oCs hc 56 hF fun t56 h_67 hF=>oCi hc 57 hF fun t57 h_70 hF=>oA 6 (.int .i64 t57) (oV [(6,.int .i64 t57)] (n65 (oY (lZ hF [.tmp 6] [.int .i64 t57] (rT zd))))))))))
       cases t48 with
       |true=>
        exact oT hF fun hF=>W.r (oQ 49 110 109 .i64 hF fun t49 hF=>oF 50 109 0 hF fun t50 hF=>oLi 51 3 hF fun t51 hF=>oA 10 (.int .i64 t51) (oV [(0,t0),(2,z5 t2),(4,v4),(10,.int .i64 t51)] (gW _ (J63 _ _ hF))))
       |false=>
        exact oU hF fun hF=>oZ (gW _ (J63 _ _ hF))
      cases t42 with
      |true=>
       replace hF:=z4f hF
       exact oA 44 (AV.ptr (AHeap.next h_34) 0) (oLi 45 3 hF fun t45 hF=>oA 46 (.int .i64 t40) (oB 47 hF fun t47 hF=>oA 48 (.bool t47) (lW _ (J62 _ _ hF))))
      |false=>
       replace hF:=z50 hF
       exact WL.o (some 44) (WL.o (some 45) (WL.o (some 46) (WL.o (some 47) (oA 48 (.bool false) (lW _ (J62 _ _ hF))))))
    cases t29 with
    |true=>
     replace hF:=z4f hF
     exact oF 31 39 0 hF fun t31 hF=>oLi 32 3 hF fun t32 hF=>oA 33 (AV.ptr (AHeap.next h_34) 2) (oA 34 (AV.ptr (AHeap.next h_34) 2) (oLi 35 3 hF fun t35 hF=>oB 36 hF fun t36 hF=>oA 37 (.bool t36) (lW _ (J49 _ _ hF))))
    |false=>
     replace hF:=z50 hF
     exact WL.o (some 31) (WL.o (some 32) (WL.o (some 33) (WL.o (some 34) (WL.o (some 35) (WL.o (some 36) (oA 37 (.bool false) (lW _ (J49 _ _ hF))))))))
noncomputable def zea(call:z10)(_:Nat)(h:AHeap):R:=callN (call 13 [] h) fun r9 h_3=>callK (call 15 [r9,.agg ([.int .i64 8,.int .i64 1]:List AV),z5 ([97,98,99]:Bytes)] h_3) fun r12 h_7=>obind (z17 .i64 r12) fun t12=>lett ((t12:Int) != 0) fun (t13:Bool)=>lett (fun (t18:Bool) (h_11:AHeap)=>ifB t18 (some (.ret (.bool false),h_11)) (callK (call 14 [r9] h_11) fun r21 h_16=>obind (z166 0 r21) fun v22=>obind (z146 v22) fun t22=>obind (z166 1 r21) fun v23=>obind (z20 v23) fun t23=>obind (z166 2 r21) fun v24=>obind (z17 .i64 v24) fun t24=>lett (newH h_16 39 [.int .i64 0,.int .i64 0]) fun h_24=>obind (z22 h_24 2 t22 (z13 h_16)) fun h_26=>callN (call 11 [] h_26) fun r25 h_29=>outK (z75 Try.prog h_29 .eql 27 true (some r25) (some AV.nilp)) fun v27 h_33=>obind (z33 v27) fun t27=>ifB t27 (some (.ret (.bool false),h_33)) (callN (call 12 [r25,.agg ([.int .u8 0,.int .i64 0,.int .i64 0,.int .i64 0,.int .i64 8,.int .i64 0,.int .i64 0,.int .i64 0,.bool false,.nsl,.int .i64 0,.int .i64 2,z5 ([97]:Bytes),.int .i64 0,.int .i64 0,.int .i64 0,.int .i64 0,.int .i64 0,.int .i64 0,.int .u8 0,.int .i64 0,.int .i64 0]:List AV)] h_33) fun r31 h_38=>obind (z166 0 r31) fun v32=>obind (z17 .i64 v32) fun t32=>obind (z166 1 r31) fun v33=>obind (z20 v33) fun _=>obind (z166 2 r31) fun v34=>obind (z33 v34) fun t34=>lett ((t24:Int) == 0) fun (t36:Bool)=>lett (fun (t41:Bool) (h_48:AHeap)=>lett (fun (t45:Bool) (h_51:AHeap)=>lett (fun (t49:Bool) (h_54:AHeap)=>lett (fun (t53:Bool) (h_57:AHeap)=>some (.ret (.bool t53),h_57)) fun j53=>ifB t49 (lett (!t34) fun (t52:Bool)=>j53 t52 h_54) (j53 false h_54)) fun j49=>ifB t45 (lett ((t32:Int) == 1) fun (t48:Bool)=>j49 t48 h_51) (j49 false h_51)) fun j45=>ifB t41 (lett (eqS t23 ([97,98,99]:Bytes)) fun (t44:Bool)=>j45 t44 h_48) (j45 false h_48)) fun j41=>ifB t36 (obind (z2c h_38 2 (z13 h_16)) fun t38=>obind (z9f Try.prog 39 (.agg t38) (.agg ([.int .i64 8,.int .i64 1]:List AV))) fun t40=>j41 t40 h_38) (j41 false h_38)))) fun j18=>ifB t13 (j18 true h_7) (callN (call 25 [r9,AV.nsl,.int .i64 0] h_7) fun r16 h_66=>obind (z17 .i64 r16) fun t16=>lett ((t16:Int) != 0) fun (t17:Bool)=>j18 t17 h_66)
set_option maxHeartbeats 4000000 in
set_option maxRecDepth 20000 in
theorem z2f1{call:z10}(hc:SaysAll Try.prog call){n:Nat}{h:AHeap}{rR:ARes}{hR:AHeap}(hF:zea call n h=some (rR,hR)):Says Try.prog 8 [] h rR hR:=by
 unfold zea at hF;refine sO Try.func8 fun w0 m0=>wW [] (oG fun n1=>W.r (oA 0 (.bool false) (oV [] (n1 (oG fun n2=>W.r (oC hc (some 9) hF fun r9 h_3 hF=>oA 1 r9 (oV [(1,r9)] (n2 (W.s (fun K5 n5 e5 q5 p5=>W.s (fun K6 n6 e6 q6 p6=>W.r (oA 10 r9 (oA 11 (.agg ([.int .i64 8,.int .i64 1]:List AV)) (oCK hc (some 12) hF (fun q=>p6 (p5 (Pf q))) fun r12 h_7 hF=>?_))))))))))))))
 replace hF:=z4 hF;obtain⟨t12,c9,hF⟩:=hF
 have c9:=z1a c9;subst c9;refine oB 13 hF fun t13 hF=>oA 14 (.bool t13) ?_;obtain⟨j18,e12,hF⟩:=z6 hF
 have J13:∀(t18:Bool) (h_11:AHeap),j18 t18 h_11=some (rR,hR)→WL Try.prog w0 m0 (Func.ntmps Try.f8) (Code.ops (y6 (y6 (y5 (y5 (z2a Try.f8)))))) 9 K6 [(1,r9),(18,.bool t18)] [] h_11:=by
  intro t18 h_11 hF;rw[e12] at hF;refine oV [(1,r9),(18,.bool t18)] (n6 ?_)
  cases t18 with
  |true=>
   exact oT hF fun hF=>oG fun n14=>W.r (oA 0 (.bool false) (oV [(0,.bool false)] (n14 (oY (q5 (lZ hF [.tmp 0] [.bool false] (rT zd)))))))
  |false=>
   refine oU hF fun hF=>oZ (n5 (oJ fun n15 p15=>W.r (oA 20 r9 (oCK hc (some 21) hF (fun q=>p15 (Pf q)) fun r21 h_16 hF=>oA 19 r21 (oEa 22 hF fun t22 hF=>oEs 23 hF fun t23 hF=>oEi 24 hF fun t24 hF=>oN 2 hF fun h_24 hF=>oW 39 (.agg t22) hF fun h_26 hF=>oA 3 (z5 t23) (oA 4 (.int .i64 t24) (oV [(2,(z13 h_16)),(3,z5 t23),(4,.int .i64 t24)] (n15 (oG fun n28=>W.r (oC hc (some 25) hF fun r25 h_29 hF=>oA 5 r25 (oV [(2,(z13 h_16)),(3,z5 t23),(4,.int .i64 t24),(5,r25)] (n28 (oH fun n31 q31=>oG fun n32=>W.r (oA 26 r25 ?_))))))))))))))
   replace hF:=z1c hF;obtain⟨v27,h_33,e34,hF⟩:=hF
   replace hF:=z4 hF;obtain⟨t27,c35,hF⟩:=hF
   have c35:=z24 c35;subst c35;refine WL.b (some 27) (.bool t27) h_33 e34 (oV [(2,(z13 h_16)),(3,z5 t23),(4,.int .i64 t24),(5,r25),(27,.bool t27)] (n32 ?_))
   cases t27 with
   |true=>
    exact oT hF fun hF=>oG fun n36=>W.r (oA 0 (.bool false) (oV [(0,.bool false)] (n36 (oY (q31 (lZ hF [.tmp 0] [.bool false] (rT zd)))))))
   |false=>
    refine oU hF fun hF=>oZ (n31 (oG fun n37=>W.r (oA 29 r25 (oA 30 (.agg ([.int .u8 0,.int .i64 0,.int .i64 0,.int .i64 0,.int .i64 8,.int .i64 0,.int .i64 0,.int .i64 0,.bool false,.nsl,.int .i64 0,.int .i64 2,z5 ([97]:Bytes),.int .i64 0,.int .i64 0,.int .i64 0,.int .i64 0,.int .i64 0,.int .i64 0,.int .u8 0,.int .i64 0,.int .i64 0]:List AV)) (oC hc (some 31) hF fun r31 h_38 hF=>oA 28 r31 (oEi 32 hF fun t32 hF=>oEs 33 hF fun t33 hF=>oEb 34 hF fun t34 hF=>oA 6 (.int .i64 t32) (oA 7 (z5 t33) (oA 8 (.bool t34) (oV [(2,(z13 h_16)),(3,z5 t23),(4,.int .i64 t24),(6,.int .i64 t32),(8,.bool t34)] (n37 (W.s (fun K46 n46 e46 q46 p46=>W.r (oA 35 (.int .i64 t24) (oB 36 hF fun t36 hF=>oA 37 (.bool t36) ?_))))))))))))));obtain⟨j41,e49,hF⟩:=z6 hF
    have J50:∀(t41:Bool) (h_48:AHeap),j41 t41 h_48=some (rR,hR)→WL Try.prog w0 m0 (Func.ntmps Try.f8) (Code.ops (y6 (y5 (y5 (y5 (y5 (y5 (y5 (y5 (z2a Try.f8)))))))))) 7 K46 [(3,z5 t23),(6,.int .i64 t32),(8,.bool t34),(41,.bool t41)] [] h_48:=by
     intro t41 h_48 hF;rw[e49] at hF;refine oA 42 (.bool t41) ?_;obtain⟨j45,e52,hF⟩:=z6 hF
     have J53:∀(t45:Bool) (h_51:AHeap),j45 t45 h_51=some (rR,hR)→WL Try.prog w0 m0 (Func.ntmps Try.f8) (Code.ops (y6 (y5 (y5 (y5 (y5 (y5 (y5 (y5 (z2a Try.f8)))))))))) 11 K46 [(6,.int .i64 t32),(8,.bool t34),(45,.bool t45)] [] h_51:=by
      intro t45 h_51 hF;rw[e52] at hF;refine oA 46 (.bool t45) ?_;obtain⟨j49,e55,hF⟩:=z6 hF
      have J56:∀(t49:Bool) (h_54:AHeap),j49 t49 h_54=some (rR,hR)→WL Try.prog w0 m0 (Func.ntmps Try.f8) (Code.ops (y6 (y5 (y5 (y5 (y5 (y5 (y5 (y5 (z2a Try.f8)))))))))) 15 K46 [(8,.bool t34),(49,.bool t49)] [] h_54:=by
       intro t49 h_54 hF;rw[e55] at hF;refine oA 50 (.bool t49) ?_;obtain⟨j53,e58,hF⟩:=z6 hF
       have J59:∀(t53:Bool) (h_57:AHeap),j53 t53 h_57=some (rR,hR)→WL Try.prog w0 m0 (Func.ntmps Try.f8) (Code.ops (y6 (y5 (y5 (y5 (y5 (y5 (y5 (y5 (z2a Try.f8)))))))))) 19 K46 [(53,.bool t53)] [] h_57:=by
        intro t53 h_57 hF;rw[e58] at hF;exact oA 0 (.bool t53) (oV [(0,.bool t53)] (n46 (oY (lZ hF [.tmp 0] [.bool t53] (rT zd)))))
       cases t49 with
       |true=>
        replace hF:=z4f hF
        exact oA 51 (.bool t34) (oB 52 hF fun t52 hF=>oA 53 (.bool t52) (lW _ (J59 _ _ hF)))
       |false=>
        replace hF:=z50 hF
        exact WL.o (some 51) (WL.o (some 52) (oA 53 (.bool false) (lW _ (J59 _ _ hF))))
      cases t45 with
      |true=>
       replace hF:=z4f hF
       exact oA 47 (.int .i64 t32) (oB 48 hF fun t48 hF=>oA 49 (.bool t48) (lW _ (J56 _ _ hF)))
      |false=>
       replace hF:=z50 hF
       exact WL.o (some 47) (WL.o (some 48) (oA 49 (.bool false) (lW _ (J56 _ _ hF))))
     cases t41 with
     |true=>
      replace hF:=z4f hF
      exact oA 43 (z5 t23) (oB 44 hF fun t44 hF=>oA 45 (.bool t44) (lW _ (J53 _ _ hF)))
     |false=>
      replace hF:=z50 hF
      exact WL.o (some 43) (WL.o (some 44) (oA 45 (.bool false) (lW _ (J53 _ _ hF))))
    cases t36 with
    |true=>
     replace hF:=z4f hF
     refine oR 38 39 hF fun t38 hF=>oA 39 (.agg ([.int .i64 8,.int .i64 1]:List AV)) ?_;obtain⟨t40,e64,hF⟩:=z4 hF;exact WL.b (some 40) (.bool t40) h_38 (eq_other (P:=Try.prog) (h:=h_38) (t:=39) (lit:=false) (by kernel_rfl) e64) (oA 41 (.bool t40) (lW _ (J50 _ _ hF)))
    |false=>
     replace hF:=z50 hF
     exact WL.o (some 38) (WL.o (some 39) (WL.o (some 40) (oA 41 (.bool false) (lW _ (J50 _ _ hF)))))
 cases t13 with
 |true=>
  replace hF:=z4f hF
  exact WL.o (some 15) (WL.o (some 16) (WL.o (some 17) (oA 18 (.bool true) (lW _ (J13 _ _ hF)))))
 |false=>
  replace hF:=z50 hF
  exact oA 15 r9 (oCi hc 16 hF fun t16 h_66 hF=>oB 17 hF fun t17 hF=>oA 18 (.bool t17) (lW _ (J13 _ _ hF)))
noncomputable def wLS(n:Nat):List LSite:=[z12 n]
theorem wLS_ok(n:Nat):∀s∈wLS n,s.ok Try.prog:=by
 intro s hs;unfold wLS at hs
 rcases List.mem_cons.1 hs with rfl|hs
 ·exact z284 n
 cases hs
theorem z243(n:Nat)(st:LoopState)(j:AJump)(t:T AV)(D:Nat):z2f0 (wLS n) ⟨st,j,t,(z12 n).N,y1a (z12 n).c,y20 (z12 n).c,y1d (z12 n).c,D⟩=some (z12 n):=lsite_hit rfl rfl rfl
noncomputable def wLT(n:Nat)(both:z4a):List (FuncId×FnT):=[(92,zdd both n),(77,z10b both n),(61,fn1 Ds (z156 (both false) n)),(39,fn1 Dv (z157 (both false) n)),(14,fn1 Dv (zff (both false) n)),(42,fn3 Dv (Di .i64) Ds (zb8 (both false) n)),(15,fn3 Dv Da Ds (z158 (both false) n)),(8,fn0 (zea (both false) n))]
theorem wLT_ok(n:Nat)(both:z4a)(hc:BothAll Try.prog both):SaysAll Try.prog (z184 (wLT n both)):=z9 (z255 hc n) (z9 (z282 hc n) (z9 (z1e Ds (z394 hc.says)) (z9 (z1e Dv (z395 hc.says)) (z9 (z1e Dv (z398 hc.says)) (z9 (zc2 Dv (Di .i64) Ds (z29e hc.says)) (z9 (zc2 Dv Da Ds (z397 hc.says)) (z9 (z227 (z2f1 hc.says)) (z32b))))))))
noncomputable def wL(n D d:Nat):z4a:=z2fc (wLS n) (wLT n) (world n D) d
theorem wL_ok(n D d:Nat):BothAll Try.prog (wL n D d):=z498 (wLS_ok n) (wLT_ok n) (world_ok n D) d
theorem wL_r(n D d b:Nat)(args:List AV)(h:AHeap):wL n D (d+1) true b args h=z304 (wLS n) (wL n D d) b args h:=rfl
theorem z1ad(f:FuncId){n D d:Nat}{args:List AV}{h:AHeap}(hf:([92,77,61,39,14,42,15,8].all fun i=> !Nat.beq i f)=true:=by kernel_rfl):wL n D (d+1) false f args h=world n D f args h:=z3e5 (z2d3 _ _ _ hf)
theorem z2e9(n D d:Nat)(t0:AV)(t1:AV){h:AHeap}{x:ARes×AHeap}(e:zec (wL n D d) n t0 t1 h=some x):wL n D (d+1) false 92 [t0,t1] h=some x:=
 zee (Eq.trans (b:=zdd (wL n D d) n [t0,t1] h) (by kernel_rfl) ((z256 (wL n D d) n t0 t1 h).trans e))
theorem z336(n D d:Nat)(t0:Bytes){h:AHeap}{x:ARes×AHeap}(e:zf6 (wL n D d) n t0 h=some x):wL n D (d+1) false 77 [z5 t0] h=some x:=
 zee (Eq.trans (b:=z10b (wL n D d) n [z5 t0] h) (by kernel_rfl) ((z283 (wL n D d) n t0 h).trans e))
theorem z38a(n D d:Nat)(t0:Bytes){h:AHeap}{x:ARes×AHeap}(e:z156 ((wL n D d) false) n t0 h=some x):wL n D (d+1) false 61 [z5 t0] h=some x:=
 zee (Eq.trans (b:=fn1 Ds (z156 ((wL n D d) false) n) [z5 t0] h) (by kernel_rfl) ((z54 Ds _ t0 h).trans e))
theorem z38b(n D d:Nat)(t0:AV){h:AHeap}{x:ARes×AHeap}(e:z157 ((wL n D d) false) n t0 h=some x):wL n D (d+1) false 39 [t0] h=some x:=
 zee (Eq.trans (b:=fn1 Dv (z157 ((wL n D d) false) n) [t0] h) (by kernel_rfl) ((z54 Dv _ t0 h).trans e))
theorem z264(n D d:Nat)(t0:AV){h:AHeap}{x:ARes×AHeap}(e:zff ((wL n D d) false) n t0 h=some x):wL n D (d+1) false 14 [t0] h=some x:=
 zee (Eq.trans (b:=fn1 Dv (zff ((wL n D d) false) n) [t0] h) (by kernel_rfl) ((z54 Dv _ t0 h).trans e))
theorem z294(n D d:Nat)(t0:AV)(t1:Int)(t2:Bytes){h:AHeap}{x:ARes×AHeap}(e:zb8 ((wL n D d) false) n t0 t1 t2 h=some x):wL n D (d+1) false 42 [t0,.int .i64 t1,z5 t2] h=some x:=
 zee (Eq.trans (b:=fn3 Dv (Di .i64) Ds (zb8 ((wL n D d) false) n) [t0,.int .i64 t1,z5 t2] h) (by kernel_rfl) ((z1bb Dv (Di .i64) Ds _ t0 t1 t2 h).trans e))
theorem z38c(n D d:Nat)(t0:AV)(t1:List AV)(t2:Bytes){h:AHeap}{x:ARes×AHeap}(e:z158 ((wL n D d) false) n t0 t1 t2 h=some x):wL n D (d+1) false 15 [t0,.agg t1,z5 t2] h=some x:=
 zee (Eq.trans (b:=fn3 Dv Da Ds (z158 ((wL n D d) false) n) [t0,.agg t1,z5 t2] h) (by kernel_rfl) ((z1bb Dv Da Ds _ t0 t1 t2 h).trans e))
theorem z2e8(n D d:Nat){h:AHeap}{x:ARes×AHeap}(e:zea ((wL n D d) false) n h=some x):wL n D (d+1) false 8 [] h=some x:=
 zee (Eq.trans (b:=fn0 (zea ((wL n D d) false) n) [] h) (by kernel_rfl) ((z446 _ h).trans e))
def zc5:Nat→Nat→Bytes
 |0,_=>[]
 |w+1,v=>zc5 w (v/256)++[UInt8.ofNat (v%256)]
theorem z21:∀(w v:Nat),(zc5 w v).length=w
 |0,_=>rfl
 |w+1,v=>by simp[zc5,z21 w]
theorem el37:Abs.elemOf Try.prog 46=some 5:=by kernel_rfl
theorem zero5:z176 Try.prog 5=some (.int .u8 0):=by kernel_rfl
theorem cells5:Try.prog.cellsOf 5=1:=by kernel_rfl
theorem fit5:z482 Try.prog 5 1=true:=by kernel_rfl
theorem bytes37:z406 Try.prog 46=true:=by kernel_rfl
theorem str9:isStr Try.prog 9=true:=by kernel_rfl
theorem z4a9(j:Nat)(x:UInt8)(rest:Bytes):(z32 (List.replicate (j+1) 0++rest)).set j (.int .u8 (x.toNat:Int))=z32 (List.replicate j 0++(x::rest)):=by
 have e:List.replicate (j+1) (0:UInt8)++rest=List.replicate j 0++(0::rest):=by
  rw[List.replicate_succ',List.append_assoc];rfl
 rw[e];unfold z32;rw[List.map_append,List.map_append,List.set_append_right _ _ (by simp)]
 simp
theorem z41b(v:Nat):((UInt8.ofNat (v%256)).toNat:Int)=((v%256:Nat):Int):=by
 rw[UInt8.toNat_ofNat']
 simp
section
variable {b n d:Nat}{k9:AHeap→R}
theorem z2b2:∀(j f v:Nat) (h:AHeap) (rest:Bytes),j<f→j≤8→v<18446744073709551616→RowH h b 5 (z32 (List.replicate j 0++rest))→
  ∃h',za7 (.sl b 0 (j+rest.length) 1) k9 f (v:Int) ((j:Int) - 1) h=k9 h'∧RowH h' b 5 (z32 (zc5 j v++rest))∧Tch [b] h h'∧h'.next=h.next
 |0,f+1,v,h,rest,_,_,_,k=>by
  refine⟨h,?_,k,Tch.refl _ _,rfl⟩;rw[z135];unfold zb4;rw[z120,decide_eq_false (by omega),z3c0]
 |j+1,f+1,v,h,rest,hf,hj,hv,k=>by
  obtain⟨h1,q1,q2,q3,q4,q5⟩:=k.st1 (o:=j) (v:=.int .u8 ((v%256:Nat):Int)) (by rw[z5b];simp;omega) rfl;rw[←z41b,z4a9] at q2;obtain⟨h2,p1,p2,p3,p4⟩:=z2b2 j f (v/256) h1 (UInt8.ofNat (v%256)::rest) (by omega) (by omega) (by omega) q2;refine⟨h2,?_,by rw[zc5,List.append_assoc];exact p2,(z38e (S:=[b]) q3 q4 q5 (.inl (by simp))).trans p3,p4.trans q3⟩;rw[z135];unfold zb4;have e1:IntKind.u8.wrap (v:Int)=((v%256:Nat):Int):=by rw[z290];omega
  have e2:shrI .u64 (v:Int) 8=some ((v/256:Nat):Int):=by
   have:shrI .u64 (v:Int) 8=some ((v:Int).fdiv 256):=rfl;rw[this,Int.fdiv_eq_ediv_of_nonneg _ (by omega)];rfl
  have e3:((j+1:Nat):Int) - 1=(j:Int):=by omega
  have e4:IntKind.i64.wrap ((j:Int) - 1)=(j:Int) - 1:=z188 (by omega) (by omega);rw[e3,z120,decide_eq_true (by omega),z442,z120,z2be (by omega),z5d,e1,Nat.zero_add,Nat.mul_one,q1,z5d,e2,z5d,z120,e4];rw[show j+1+rest.length=j+(UInt8.ofNat (v%256)::rest).length by simp;omega];exact p1
end
section
variable {n d:Nat}{h:AHeap}
theorem z37c(w:Nat)(h:AHeap):RowH (newH h 5 (z32 (List.replicate w 0))) h.next 5 (z32 (List.replicate w 0++[])):=by
 rw[List.append_nil];exact RowH.new _ _ _
theorem conv37{h:AHeap}{b:Nat}{l:Bytes}(k:RowH h b 5 (z32 l)):z7b Try.prog h 46 9 (some (.sl b 0 l.length 1))=some (.val (z5 l),h):=
 z45b bytes37 str9 (by rw[k.part (by rw[z5b];omega),List.drop_zero, ←z5b l,List.take_length])
theorem z437{v w:Nat}(hn:8<n)(hw:w≤8)(hv:v<18446744073709551616)(hx:zbf 5 h.ex=false):world n (d+1) 83 [.int .u64 (v:Int),.int .i64 (w:Int)] h=some (.ret (z5 (zc5 w v)),h):=by
 rw[z330];unfold z114;rw[z313 (k1:=.i64) (k2:=.i64) el37 zero5 cells5 fit5 hx (Nat.le_refl w) (by omega),z28b,z120,z188 (by omega) (by omega)]
 suffices hK:∃h',lett (fun (h_10:AHeap)=>outK (z7b Try.prog h_10 46 9 (some (.sl h.next 0 w 1))) fun v23 h_12=>obind (z20 v23) fun t23=>some (ARes.ret (z5 t23),h_12)) (fun k9=>za7 (.sl h.next 0 w 1) k9 n (v:Int) ((w:Int) - 1) (newH h 5 (z32 (List.replicate w 0))))=some (.ret (z5 (zc5 w v)),h')∧Above h h' by
  obtain⟨h',e,ha⟩:=hK;rw[e];exact z35f ha rfl
 obtain⟨h',e1,e2,e3,e4⟩:=z2b2 (b:=h.next) (k9:=fun (h_10:AHeap)=>outK (z7b Try.prog h_10 46 9 (some (.sl h.next 0 w 1))) fun v23 h_12=>obind (z20 v23) fun t23=>some (ARes.ret (z5 t23),h_12)) w n v (newH h 5 (z32 (List.replicate w 0))) [] (by omega) hw hv (z37c w h);rw[List.append_nil] at e2;have hc:=conv37 e2;rw[z21] at hc;refine⟨h',?_,((Tch.newH [] h 5 (z32 (List.replicate w 0))).trans' e3 (by intro b hb;simp at hb;subst hb;exact .inr (Nat.le_refl _))).above⟩;rw[z120];refine e1.trans ?_;rw[hc,z28b,ze,z5d]
theorem u32_w{v:Nat}(hn:8<n)(hv:v<4294967296)(hx:zbf 5 h.ex=false):world n (d+2) 90 [.int .u32 (v:Int)] h=some (.ret (z5 (zc5 4 v)),h):=by
 rw[z465];unfold z1c1;have e:IntKind.u64.wrap (v:Int)=(v:Int):=by rw[z12e];omega
 rw[z120,e,show ((4:Int))=((4:Nat):Int) from rfl,z437 hn (by omega) (by omega) hx,z3d6,ze,z5d];exact z443
theorem u64_w{v:Nat}(hn:8<n)(hv:v<18446744073709551616)(hx:zbf 5 h.ex=false):world n (d+2) 66 [.int .u64 (v:Int)] h=some (.ret (z5 (zc5 8 v)),h):=by
 rw[z464];unfold z1c0;rw[show ((8:Int))=((8:Nat):Int) from rfl,z437 hn (by omega) hv hx,z3d6,ze,z5d];exact z443
end
structure RS where
 p:Nat
 e:Int
 q:Int
def valF:Nat→Bytes→Nat
 |a,[]=>a
 |a,b::l=>valF (a*256+b.toNat) l
def valB(l:Bytes):Nat:=valF 0 l
theorem z189:∀(l k:Bytes) (a:Nat),valF a (l++k)=valF (valF a l) k
 |[],_,_=>rfl
 |b::l,k,a=>by rw[List.cons_append,valF,z189 l k,valF]
theorem z49b:∀(l:Bytes) (a:Nat),valF a l<(a+1)*256 ^ l.length
 |[],a=>by simp[valF]
 |b::l,a=>by
  rw[valF,List.length_cons,Nat.pow_succ];have h:=z49b l (a*256+b.toNat);have hb:=b.toNat_lt;have h2:(a*256+b.toNat+1)*256 ^ l.length≤((a+1)*256)*256 ^ l.length:=Nat.mul_le_mul_right _ (by omega)
  calc _<_:=h
   _≤_:=h2
   _=_:=by rw[Nat.mul_assoc,Nat.mul_comm 256]
theorem z49c(l:Bytes):valB l<256 ^ l.length:=by
 have:=z49b l 0;rw[Nat.zero_add,Nat.one_mul] at this;exact this
theorem z295{s:Bytes}{p i:Nat}(h:p+i<s.length):valB ((s.drop p).take (i+1))=valB ((s.drop p).take i)*256+s[p+i].toNat:=by
 unfold valB;rw[List.take_succ_eq_append_getElem (by rw[List.length_drop];omega),z189,List.getElem_drop];rfl
theorem z426{s:Bytes}{p i:Nat}:valB ((s.drop p).take i)<256 ^ i:=by
 refine Nat.lt_of_lt_of_le (z49c _) (Nat.pow_le_pow_right (by omega) ?_);rw[List.length_take];exact Nat.min_le_left _ _
theorem pow_le7{i:Nat}(hi:i≤7):256 ^ i≤72057594037927936:=Nat.le_trans (Nat.pow_le_pow_right (by omega) hi) (by decide)
def z2aa(s:Bytes)(w:Nat)(r:RS):Nat×RS:=
 if r.e≠0 then (0,r) else if s.length<r.p+w then (0,⟨r.p,7,(r.p:Int)⟩) else (valB ((s.drop r.p).take w),⟨r.p+w,r.e,r.q⟩)
def RS.ok(s:Bytes)(r:RS):Prop:=r.p≤s.length
theorem rNum_ok{s:Bytes}{w:Nat}{r:RS}(h:r.ok s):(z2aa s w r).2.ok s:=by
 unfold RS.ok at *;unfold z2aa
 split
 ·exact h
 ·split
  ·exact h
  ·show r.p + w ≤ s.length
   omega
theorem rNum_lt{s:Bytes}{w:Nat}{r:RS}:(z2aa s w r).1 <256 ^ w:=by
 have hp:0<256 ^ w:=Nat.pow_pos (by omega);unfold z2aa
 split
 ·exact hp
 ·split
  ·exact hp
  ·exact z426
noncomputable def rdC(s:Bytes)(r:RS):List AV:=[z5 s,.int .i64 (r.p:Int),.int .i64 r.e,.int .i64 r.q]
abbrev PR(h:AHeap)(b:Nat)(s:Bytes)(r:RS):Prop:=RowH h b 166 (rdC s r)
theorem neq72(h:AHeap)(b:Nat):z75 Try.prog h .neq 150 true (some (.ptr b 0)) (some .nilp)=some (.val (.bool true),h):=by kernel_rfl
theorem shl8{v:Int}(h0:0≤v)(h1:v<72057594037927936):shlI .u64 v 8=some (v*256):=by
 have:shlI .u64 v 8=some (IntKind.u64.wrap (v*256)):=rfl;rw[this,z12e,Int.emod_eq_of_lt (by omega) (by omega)]
theorem or8{v c:Nat}(h1:v<72057594037927936)(h2:c<256):orI .u64 ((v:Int)*256) (c:Int)=((v*256+c:Nat):Int):=by
 show IntKind.u64.wrap (((BitVec.ofInt 64 ((v:Int)*256))|||(BitVec.ofInt 64 (c:Int))).toNat:Int)=_
 have e1:(BitVec.ofInt 64 ((v:Int)*256))=BitVec.ofNat 64 (v*256):=by
  rw[show ((v:Int)*256)=((v*256:Nat):Int) by omega];exact BitVec.ofInt_natCast ..
 have e2:(BitVec.ofInt 64 (c:Int))=BitVec.ofNat 64 c:=BitVec.ofInt_natCast ..;rw[e1,e2,BitVec.toNat_or,BitVec.toNat_ofNat,BitVec.toNat_ofNat,Nat.mod_eq_of_lt (by omega),Nat.mod_eq_of_lt (by omega)]
 have e3:v*256|||c=v*256+c:=by
  have:=Nat.shiftLeft_add_eq_or_of_lt (i:=8) (b:=c) (by omega) v;rw[Nat.shiftLeft_eq] at this;exact this.symm
 rw[e3,z12e,Int.emod_eq_of_lt (by omega) (by omega)]
section
variable {n d b:Nat}{h:AHeap}{s:Bytes}{r:RS}{Q:ARes→AHeap→Prop}
theorem whole_w(k:PR h b s r):world n (d+1) 94 [.ptr b 0] h=some (.ret (.bool (decide (r.e=0))),h):=by
 apply Wp.eq;rw[z1eb];unfold z67
 repeat(first|(with_reducible first|refine y27 (fun _ _=>?_)|refine Wp.lett ?_)|((with_reducible apply Wp.obind);first|(with_reducible first|exact z7 _ _|exact z11 _|exact zf _ _|exact z8 _ _ _)|((with_reducible apply RowH.cell');(with_reducible assumption);rfl))|(with_reducible first|(refine y9 ?_ ?_;rfl)|(apply Wp.outK;exact neq72 _ _)|refine y37 (by assumption) ?_))
 exact Wp.ret ⟨by rw[←Bool.beq_eq_decide_eq],rfl⟩
theorem fail_w(k:PR h b s r)(e q:Int):∃h',world n (d+1) 95 [.ptr b 0,.int .i64 e,.int .i64 q] h=some (.ret (.tup []),h')∧PR h' b s ⟨r.p,e,q⟩∧Tch [b] h h':=by
 apply Wp.ex;rw[z209];unfold z76
 repeat(((with_reducible apply Wp.obind);(with_reducible first|exact zf _ _|exact z8 _ _ _)))
 exact y3c k (vs:=[.int .i64 e,.int .i64 q]) rfl (show 0+2+2≤4 by decide) rfl (fun h' k' t' _=>Wp.ret ⟨rfl,k',t'⟩)
theorem z439{w:Nat}(hw:w≤8)(hp:r.p+w≤s.length)(hs:s.length≤1000000000){k33:Int→AHeap→R}(hk:k33=fun t5 h_34=>some (.ret (.int .u64 t5),h_34)){h0:AHeap}:
  ∀(f i:Nat) (h:AHeap),w<f+i→i≤w→PR h b s ⟨r.p+i,r.e,r.q⟩→Tch [b] h0 h→
   Wp (z5c (.ptr b 0) (w:Int) k33 f (valB ((s.drop r.p).take i):Int) (i:Int) h) fun x h'=>x=.ret (.int .u64 (valB ((s.drop r.p).take w):Int))∧PR h' b s ⟨r.p+w,r.e,r.q⟩∧Tch [b] h0 h'
 |0,i,h,h1,h2,_,_=>by omega
 |f+1,i,h,h1,h2,k,t=>by
  rw[zfc];unfold z73
  by_cases hi:i<w
  ·have hv : valB ((s.drop r.p).take i) < 72057594037927936 := Nat.lt_of_lt_of_le z426 (pow_le7 (by omega))
   have hc:=(s[r.p+i]'(by omega)).toNat_lt;have hx:z3c1 s ((r.p+i:Nat):Int)=some ((s[r.p+i]'(by omega)).toNat:Int):=z16d (by omega);have hsuc:=z295 (s:=s) (p:=r.p) (i:=i) (by omega);have k0:RowH h b 166 [z5 s,.int .i64 ((r.p+i:Nat):Int),.int .i64 r.e,.int .i64 r.q]:=k;clear k
   repeat(first|((with_reducible first|refine yd ?_ ?_ ?_|refine y13 ?_ ?_ ?_);omega;omega)|(with_reducible refine Wp.lett ?_)|((with_reducible apply Wp.obind);first|(with_reducible first|exact shl8 (by omega) (by omega)|exact hx|exact z7 _ _|exact ze _|exact zf _ _|exact z8 _ _ _)|((with_reducible apply RowH.cell');(with_reducible assumption);rfl))|((with_reducible refine y9 ?_ ?_;apply decide_eq_true);omega))
   refine Wp.st1 k0 (show 1<4 by decide) rfl (fun h' k' t' _=>?_)
   repeat(((with_reducible refine yd ?_ ?_ ?_);omega;omega))
   rw[or8 hv hc, ←hsuc,show (i:Int)+1=((i+1:Nat):Int) by omega];refine z439 hw hp hs hk f (i+1) h' (by omega) (by omega) ?_ (t.trans t')
   have e:([z5 s,.int .i64 ((r.p+i:Nat):Int),.int .i64 r.e,.int .i64 r.q]:List AV).set 1 (.int .i64 (((r.p+i:Nat):Int)+1))=rdC s ⟨r.p+(i+1),r.e,r.q⟩:=by
    rw[show ((r.p+i:Nat):Int)+1=((r.p+(i+1):Nat):Int) by omega];rfl
   have k2:RowH h' b 166 _:=k';rw[show 0+1=1 from rfl,e] at k2;exact k2
  ·have : i = w := by omega
   subst this
   repeat(first|(with_reducible refine Wp.lett ?_)|((with_reducible refine y8 ?_ ?_;apply decide_eq_false);omega)|(with_reducible refine y37 (by assumption) ?_))
   exact Wp.ret ⟨rfl,k,t⟩
theorem z438{w:Nat}(k:PR h b s r)(hok:r.ok s)(hw:w≤8)(hs:s.length≤1000000000)(hn:8<n){W:Int}(hW:W=(w:Int)):∃h',world n (d+2) 88 [.ptr b 0,.int .i64 W] h=some (.ret (.int .u64 ((z2aa s w r).1:Int)),h')∧PR h' b s (z2aa s w r).2∧Tch [b] h h':=by
 subst hW;unfold RS.ok at hok;apply Wp.ex;rw[z1d6];unfold z5e;have hwh:=whole_w (n:=n) (d:=d) k;have ll:=z2d s;unfold z2aa
 by_cases he:r.e=0
 case neg=>
  rw[decide_eq_false he] at hwh;rw[if_pos he]
  repeat(with_reducible first|refine Wp.lett ?_|(apply Wp.obind;exact z11 _)|(refine y9 ?_ ?_;exact Bool.not_false)|(apply Wp.callN;assumption))
  exact Wp.ret ⟨rfl,k,Tch.refl _ _⟩
 rw[decide_eq_true he] at hwh;rw[if_neg (by simpa using he)]
 by_cases hl:s.length<r.p+w
 ·obtain ⟨h1, e1, k1, t1⟩ := fail_w (n := n) (d := d) k 7 (r.p : Int)
  rw[if_pos hl]
  repeat(first|((with_reducible refine yd ?_ ?_ ?_);omega;omega)|(with_reducible refine Wp.lett ?_)|((with_reducible apply Wp.obind);first|(with_reducible first|exact z7 _ _|exact z11 _|exact ze _|exact zf _ _|exact z8 _ _ _)|((with_reducible apply RowH.cell');(with_reducible assumption);rfl))|((with_reducible refine y9 ?_ ?_;apply decide_eq_true);omega)|(with_reducible first|(refine y8 ?_ ?_;exact Bool.not_true)|(apply Wp.callN;assumption)))
  exact Wp.ret ⟨rfl,k1,t1⟩
 ·rw [if_neg hl]
  repeat(first|(with_reducible refine y27 (fun _ _=>?_))|((with_reducible refine yd ?_ ?_ ?_);omega;omega)|(with_reducible refine Wp.lett ?_)|((with_reducible apply Wp.obind);first|(with_reducible first|exact z7 _ _|exact z11 _|exact ze _|exact zf _ _|exact z8 _ _ _)|((with_reducible apply RowH.cell');(with_reducible assumption);rfl))|((with_reducible refine y8 ?_ ?_);first|(with_reducible exact Bool.not_true)|((with_reducible apply decide_eq_false);omega))|(with_reducible apply Wp.callN;assumption))
  rename_i k33 hk33;exact z439 hw (by omega) hs hk33 n 0 h (by omega) (by omega) k (Tch.refl _ _)
theorem u64_r(k:PR h b s r)(hok:r.ok s)(hs:s.length≤1000000000)(hn:8<n):∃h',world n (d+3) 79 [.ptr b 0] h=some (.ret (.int .u64 ((z2aa s 8 r).1:Int)),h')∧PR h' b s (z2aa s 8 r).2∧Tch [b] h h':=by
 obtain⟨h1,e1,k1,t1⟩:=z438 (n:=n) (d:=d) k hok (w:=8) (W:=8) (by omega) hs hn rfl;apply Wp.ex;rw[z239];unfold z8c
 repeat(with_reducible first|(apply Wp.obind;exact z7 _ _)|(apply Wp.callN;assumption))
 exact Wp.ret ⟨rfl,k1,t1⟩
theorem u32_r(k:PR h b s r)(hok:r.ok s)(hs:s.length≤1000000000)(hn:8<n):∃h',world n (d+3) 98 [.ptr b 0] h=some (.ret (.int .u32 ((z2aa s 4 r).1:Int)),h')∧PR h' b s (z2aa s 4 r).2∧Tch [b] h h':=by
 obtain⟨h1,e1,k1,t1⟩:=z438 (n:=n) (d:=d) k hok (w:=4) (W:=4) (by omega) hs hn rfl;have hlt:(z2aa s 4 r).1 <4294967296:=rNum_lt (s:=s) (w:=4) (r:=r);apply Wp.ex;rw[z23a];unfold z8d
 repeat(first|((with_reducible refine y19 ?_ ?_ ?_);omega;omega)|(with_reducible first|(apply Wp.obind;exact z7 _ _)|(apply Wp.callN;assumption)))
 exact Wp.ret ⟨rfl,k1,t1⟩
end
namespace Crc
def poly:Nat:=2197175160
def ones:Nat:=4294967295
def U32(x:Nat):Prop:=x<2 ^ 32
def sh(x:Nat):Nat:=(x/2) ^^^ (if x%2=1 then poly else 0)
def shN:Nat→Nat→Nat
 |0,x=>x
 |n+1,x=>shN n (sh x)
def stp(x b:Nat):Nat:=sh (x ^^^ b)
def stps:List Nat→Nat→Nat
 |[],x=>x
 |b::l,x=>stps l (stp x b)
def bits8(x:Nat):List Nat:=[x%2,x/2%2,x/4%2,x/8%2,x/16%2,x/32%2,x/64%2,x/128%2]
def bitsOf:List UInt8→List Nat
 |[]=>[]
 |x::l=>bits8 x.toNat++bitsOf l
def more(from_:Nat)(l:List UInt8):Nat:=ones ^^^ stps (bitsOf l) (ones ^^^ from_)
def of(l:List UInt8):Nat:=more 0 l
theorem poly_lt:U32 poly:=by unfold U32 poly;decide
theorem ones_lt:U32 ones:=by unfold U32 ones;decide
theorem xor_lt{x y:Nat}(hx:U32 x)(hy:U32 y):U32 (x ^^^ y):=Nat.xor_lt_two_pow hx hy
theorem sh_lt{x:Nat}(hx:U32 x):U32 (sh x):=by
 unfold sh;refine xor_lt ?_ ?_
 ·unfold U32 at *;omega
 ·split
  ·exact poly_lt
  ·unfold U32;decide
theorem shN_lt:∀{n x:Nat},U32 x→U32 (shN n x)
 |0,_,h=>h
 |n+1,_,h=>shN_lt (n:=n) (sh_lt h)
theorem bit_lt{b:Nat}(h:b<2):U32 b:=by unfold U32;omega
theorem stps_lt:∀{l:List Nat} {x:Nat},U32 x→(∀b∈l,b<2)→U32 (stps l x)
 |[],_,h,_=>h
 |b::l,x,h,hb=>stps_lt (l:=l) (sh_lt (xor_lt h (bit_lt (hb b (by simp))))) (fun c hc=>hb c (by simp[hc]))
theorem bits8_lt(x:Nat):∀b∈bits8 x,b<2:=by
 intro b hb;simp only[bits8,List.mem_cons,List.not_mem_nil,or_false] at hb;omega
theorem bitsOf_lt(l:List UInt8):∀b∈bitsOf l,b<2:=by
 induction l with
 |nil=>intro b hb;simp[bitsOf] at hb
 |cons x l ih=>
  intro b hb
  rcases List.mem_append.1 hb with h|h
  ·exact bits8_lt _ b h
  ·exact ih b h
theorem more_lt{a:Nat}(l:List UInt8)(ha:U32 a):U32 (more a l):=xor_lt ones_lt (stps_lt (xor_lt ones_lt ha) (bitsOf_lt l))
theorem of_lt(l:List UInt8):U32 (of l):=more_lt l (by unfold U32;decide)
theorem z400(x y:Nat):(x ^^^ y)%2=(x%2+y%2)%2:=by
 have hx:=Nat.mod_two_eq_zero_or_one x;have hy:=Nat.mod_two_eq_zero_or_one y;have hz:=Nat.mod_two_eq_zero_or_one (x ^^^ y);have h:=Nat.testBit_xor x y 0;simp only[Nat.testBit_zero] at h
 rcases hx with hx|hx<;>rcases hy with hy|hy<;>rcases hz with hz|hz<;>simp[hx,hy,hz] at h ⊢
theorem z415(x y:Nat):(x ^^^ y)/2=(x/2) ^^^ (y/2):=Nat.xor_div_two
theorem sh_xor(x y:Nat):sh (x ^^^ y)=sh x ^^^ sh y:=by
 unfold sh;rw[z415,z400];have hx:=Nat.mod_two_eq_zero_or_one x;have hy:=Nat.mod_two_eq_zero_or_one y
 have e:(if (x%2+y%2)%2=1 then poly else 0)=(if x%2=1 then poly else 0) ^^^ (if y%2=1 then poly else 0):=by
  rcases hx with hx|hx<;>rcases hy with hy|hy<;>simp[hx,hy]
 rw[e]
 ac_rfl
theorem z4a6:∀(n x y:Nat),shN n (x ^^^ y)=shN n x ^^^ shN n y
 |0,_,_=>rfl
 |n+1,x,y=>by
  show shN n (sh (x ^^^ y))=shN n (sh x) ^^^ shN n (sh y);rw[sh_xor,z4a6 n]
theorem z4a7:∀(m n x:Nat),shN (m+n) x=shN n (shN m x)
 |0,n,x=>by rw[Nat.zero_add];rfl
 |m+1,n,x=>by
  rw[Nat.add_right_comm];exact z4a7 m n (sh x)
theorem stps_append:∀(l m:List Nat) (x:Nat),stps (l++m) x=stps m (stps l x)
 |[],_,_=>rfl
 |b::l,m,x=>stps_append l m (stp x b)
theorem bitsOf_append(l m:List UInt8):bitsOf (l++m)=bitsOf l++bitsOf m:=by
 induction l with
 |nil=>rfl
 |cons x l ih=>simp[bitsOf,ih]
def word:List Nat→Nat
 |[]=>0
 |b::l=>b+2*word l
theorem z1b2(x:Nat):sh (2*x)=x:=by
 unfold sh;rw[if_neg (by omega),Nat.xor_zero];omega
theorem z493{b x:Nat}(hb:b<2):b+2*x=b ^^^ (2*x):=by
 have h1:=z415 b (2*x);have h2:=z400 b (2*x);have e1:2*x/2=x:=by omega
 have e2:b/2=0:=by omega
 rw[e1,e2,Nat.zero_xor] at h1;omega
theorem z392:∀(l:List Nat) (x:Nat),(∀b∈l,b<2)→stps l x=shN l.length (x ^^^ word l)
 |[],x,_=>by simp[stps,shN,word]
 |b::l,x,h=>by
  show stps l (sh (x ^^^ b))=shN l.length (sh (x ^^^ (b+2*word l)));rw[z392 l _ (fun c hc=>h c (by simp[hc])),z493 (h b (by simp)), ←Nat.xor_assoc,sh_xor (x ^^^ b),z1b2]
theorem stp_sum(x b:Nat)(hb:b<2):stp x b=(if (x+b)%2=1 then (x/2) ^^^ poly else x/2):=by
 unfold stp sh;rw[z400,z415];have e1:b/2=0:=by omega
 have e2:(x%2+b%2)%2=(x+b)%2:=by omega
 rw[e1,e2,Nat.xor_zero]
 split<;>simp
def halves:List Nat:=[0,274646895,549293790,820201905,1098587580,1361435347,1640403810,1905808397,2197175160,2460548119,2722870694,2987750089,3280807620,3553878443,3811616794,4084100981]
theorem halves_eq:halves=(List.range 16).map (shN 4):=by decide+kernel
theorem halves_get(j:Nat)(h:j<16):halves[j]? =some (shN 4 j):=by
 rw[halves_eq,List.getElem?_map,List.getElem?_range h];rfl
theorem low_xor(q r:Nat)(hr:r<16):16*q+r=(16*q) ^^^ r:=by
 have h:=Nat.two_pow_add_eq_or_of_lt (i:=4) (b:=r) (by simpa using hr) q;have e:(2:Nat) ^ 4=16:=by decide
 rw[e] at h;rw[h];apply Nat.eq_of_testBit_eq;intro i;rw[Nat.testBit_or,Nat.testBit_xor]
 by_cases hi:i<4
 ·have : (16 * q).testBit i = false := by
   rw[show 16*q=2 ^ 4*q from by rw[e],Nat.testBit_two_pow_mul]
   simp;omega
  rw[this];simp
 ·have : r.testBit i = false := Nat.testBit_lt_two_pow (Nat.lt_of_lt_of_le hr (by rw [← e]; exact Nat.pow_le_pow_right (by omega) (by omega)))
  rw[this];simp
theorem z4a8(q:Nat):shN 4 (16*q)=q:=by
 show sh (sh (sh (sh (16*q))))=q;rw[show 16*q=2*(2*(2*(2*q))) from by omega,z1b2,z1b2,z1b2,z1b2]
theorem nib(x:Nat):shN 4 x=(x/16) ^^^ shN 4 (x%16):=by
 conv=>lhs;rw[show x=16*(x/16)+x%16 from by omega,low_xor _ _ (Nat.mod_lt _ (by omega)),z4a6,z4a8]
theorem z463(b:Nat)(h:b<256):word (bits8 b)=b:=by
 simp only[word,bits8];omega
theorem stps_byte(b x:Nat)(h:b<256):stps (bits8 b) x=shN 4 (shN 4 (x ^^^ b)):=by
 rw[z392 _ _ (bits8_lt b),z463 b h, ←z4a7];rfl
end Crc
open Go.RowKit Abs
theorem z424{x y:Nat}(hx:x<4294967296)(hy:y<4294967296):xorI .u32 (x:Int) (y:Int)=((x ^^^ y:Nat):Int):=by
 have hz:x ^^^ y<2 ^ 32:=Nat.xor_lt_two_pow (by omega) (by omega)
 have h1:(BitVec.ofInt 32 (x:Int)).toNat=x:=by
  rw[BitVec.ofInt_natCast,BitVec.toNat_ofNat];exact Nat.mod_eq_of_lt (by omega)
 have h2:(BitVec.ofInt 32 (y:Int)).toNat=y:=by
  rw[BitVec.ofInt_natCast,BitVec.toNat_ofNat];exact Nat.mod_eq_of_lt (by omega)
 show IntKind.u32.wrap ((BitVec.ofInt 32 (x:Int) ^^^ BitVec.ofInt 32 (y:Int)).toNat:Int)=_;rw[BitVec.toNat_xor,h1,h2,z12f];omega
theorem z45c{x:Nat}(hx:x<4294967296):comI .u32 (x:Int)=((Crc.ones ^^^ x:Nat):Int):=z424 (x:=4294967295) (by omega) hx
theorem z3d0(l:Bytes):Crc.of l<4294967296:=Crc.of_lt l
abbrev TH16:Nat:=177
noncomputable def halfV:List AV:=Crc.halves.map fun (m:Nat)=>.int .u32 (m:Int)
theorem z3c3{j:Nat}(hj:j<16):halfV[j]? =some (.int .u32 ((Crc.shN 4 j:Nat):Int)):=by
 unfold halfV;rw[List.getElem?_map,Crc.halves_get j hj];rfl
theorem z41e{s:Bytes}{k:Nat}(h:k<s.length)(x0:Nat):Crc.stps (Crc.bitsOf (s.take (k+1))) x0=Crc.shN 4 (Crc.shN 4 (Crc.stps (Crc.bitsOf (s.take k)) x0 ^^^ s[k].toNat)):=by
 rw[List.take_succ_eq_append_getElem h,Crc.bitsOf_append,Crc.stps_append,show Crc.bitsOf [s[k]]=Crc.bits8 s[k].toNat by simp[Crc.bitsOf],Crc.stps_byte _ _ s[k].toNat_lt]
theorem nibI{Y:Nat}(hY:Y<4294967296):xorI .u32 ((Y/16:Nat):Int) ((Crc.shN 4 (Y%16):Nat):Int)=((Crc.shN 4 Y:Nat):Int):=by
 have h:=z424 (x:=Y/16) (y:=Crc.shN 4 (Y%16)) (by omega) (Crc.shN_lt (show Crc.U32 (Y%16) by unfold Crc.U32;omega));rw[←Crc.nib] at h;exact h
section
variable {n d:Nat}{h H:AHeap}{s:Bytes}{Q:ARes→AHeap→Prop}{x0:Nat}
theorem z3b6(hx0:x0<4294967296)(hs:s.length<1000000000)(kr:RowH H h.next TH16 halfV){k13:Int→AHeap→R}(hk:Wp (k13 ((Crc.stps (Crc.bitsOf s) x0:Nat):Int) H) Q):
  ∀(r i fu X:Nat),r+i=s.length→r<fu→X=Crc.stps (Crc.bitsOf (s.take i)) x0→Wp (z154 s h k13 fu (X:Int) (i:Int) H) Q
 |_,_,0,_,_,hf,_=>by omega
 |0,i,fu+1,X,hi,_,hX=>by
  have ll:=z2d s;rw[z18a];unfold z130;refine Wp.lett (y8 (by rw[decide_eq_false_iff_not];omega) ?_);rw[List.take_of_length_le (by omega)] at hX;rw[hX];exact hk
 |r+1,i,fu+1,X,hi,hf,hX=>by
  have ll:=z2d s;have hil:i<s.length:=by omega
  have hXl:X<4294967296:=by
   rw[hX];exact Crc.stps_lt hx0 (Crc.bitsOf_lt _)
  have hb:=s[i].toNat_lt;have l1:X ^^^ s[i].toNat <4294967296:=Nat.xor_lt_two_pow (n:=32) hXl (by omega);have l2:Crc.shN 4 (X ^^^ s[i].toNat)<4294967296:=Crc.shN_lt l1
  have e1:∀Y:Nat,shrI .u32 (Y:Int) 4=some ((Y/16:Nat):Int):=fun Y=>by
   have:shrI .u32 (Y:Int) 4=some ((Y:Int).fdiv 16):=rfl;rw[this,Int.fdiv_eq_ediv_of_nonneg _ (by omega)];rfl
  have e2:∀Y:Nat,remI .u32 (Y:Int) 16=some ((Y%16:Nat):Int):=fun Y=>rfl
  have e3:∀j:Nat,j<16→z169 16 1 (z13 h) (j:Int)=some (.ptr h.next j):=fun j hj=>by
   have:z169 16 1 (z13 h) (j:Int)=(match Nat.blt j 16 with|true=>some (AV.ptr h.next (0+j*1))|false=>none):=rfl;rw[this,show Nat.blt j 16=true by simpa using hj,Nat.zero_add,Nat.mul_one]
  rw[z18a];unfold z130;refine Wp.lett (y9 (by rw[decide_eq_true_eq];omega) (Wp.obind (z16d hil) (y19 (by omega) (by omega) (Wp.lett ?_))));rw[z424 hXl (by omega)];refine Wp.obind (e1 _) (Wp.obind (e2 _) (Wp.obind (e3 _ (Nat.mod_lt _ (by decide))) (Wp.obind (RowH.cell' kr (z3c3 (Nat.mod_lt _ (by decide)))) (Wp.obind (z7 _ _) (Wp.lett ?_)))));rw[nibI l1];refine Wp.obind (e1 _) (Wp.obind (e2 _) (Wp.obind (e3 _ (Nat.mod_lt _ (by decide))) (Wp.obind (RowH.cell' kr (z3c3 (Nat.mod_lt _ (by decide)))) (Wp.obind (z7 _ _) (Wp.lett ?_)))));rw[nibI l2];refine yd (by omega) (by omega) ?_;rw[show (i:Int)+1=((i+1:Nat):Int) by omega];exact z3b6 hx0 hs kr hk r (i+1) fu _ (by omega) (by omega) (by rw[z41e hil,hX])
theorem more_w{a:Nat}(ha:a<4294967296)(hs:s.length<1000000000)(hn:s.length<n):world n (d+1) 100 [.int .u32 (a:Int),z5 s] h=some (.ret (.int .u32 ((Crc.more a s:Nat):Int)),h):=by
 apply Wp.eq;rw[z467];refine y3b ?_;unfold z1c3;refine Wp.obind (a:=halfV) (by kernel_rfl) (y12 (Mem.nil [] h) fun h2 M2=>?_);rw[z23];refine y18 M2 (by kernel_rfl) rfl (by kernel_rfl) fun h3 M3=>Wp.lett (y7 fun k13 e13=>?_);have ho:Crc.ones ^^^ a<4294967296:=Crc.xor_lt Crc.ones_lt ha;rw[z45c ha];refine z3b6 ho hs M3.at0.1 ?_ s.length 0 n _ (Nat.add_zero _) hn rfl;rw[e13];dsimp only;rw[z45c (Crc.stps_lt ho (Crc.bitsOf_lt _))];exact Wp.lett (Wp.ret ⟨M3.tch.above,rfl,rfl,rfl⟩)
theorem sum_w(hs:s.length<1000000000)(hn:s.length<n):world n (d+2) 96 [z5 s] h=some (.ret (.int .u32 ((Crc.of s:Nat):Int)),h):=by
 apply Wp.eq;rw[w_sum_Of];refine y29 ?_;unfold z300;exact Wp.callN (more_w (n:=n) (d:=d) (a:=0) (by omega) hs hn) (Wp.obind (z7 _ _) (Wp.ret ⟨⟨rfl,rfl⟩,fun _=>⟨rfl,rfl⟩⟩))
end
theorem z1c8:∀(w v:Nat),v<256 ^ w→valB (zc5 w v)=v
 |0,v,h=>by
  have:v=0:=by simpa using h
  subst this;rfl
 |w+1,v,h=>by
  have ih:=z1c8 w (v/256) (by rw[Nat.pow_succ] at h;omega);unfold zc5;unfold valB at ih ⊢;rw[z189,ih];show v/256*256+(UInt8.ofNat (v%256)).toNat=v;have:=z41b v;omega
theorem z3fc:∀(w:Nat) (l:Bytes),l.length=w→zc5 w (valB l)=l
 |0,l,h=>by rw[List.length_eq_zero_iff.1 h];rfl
 |w+1,l,h=>by
  have hne:l≠[]:=fun e=>by subst e;cases h
  obtain⟨k,b,rfl⟩:∃k b,l=k++[b]:=⟨l.dropLast,l.getLast hne,(List.dropLast_concat_getLast hne).symm⟩;rw[List.length_append,List.length_singleton] at h;have ih:=z3fc w k (by omega)
  have hv:valB (k++[b])=valB k*256+b.toNat:=by
   unfold valB;rw[z189];rfl
  have hb:=b.toNat_lt;unfold zc5;rw[hv,show (valB k*256+b.toNat)/256=valB k by omega,ih,show (valB k*256+b.toNat)%256=b.toNat by omega,UInt8.ofNat_toNat]
theorem numB_iff{w v:Nat}{l:Bytes}(hv:v<256 ^ w)(hl:l.length=w):zc5 w v=l↔valB l=v:=by
 constructor
 ·intro e
  rw[←e];exact z1c8 w v hv
 ·intro e
  rw[←e];exact z3fc w l hl
def z4d(u:Bytes):Bool:=valB (u.drop (u.length - 4)) == Crc.of (u.take (u.length - 4))
def z3f(p:Bytes):Bytes:=zc5 4 p.length++zc5 4 (Crc.of (zc5 4 p.length))++(p++zc5 4 (Crc.of p))
def z2f(s:Bytes):Bytes×Nat×Int:=
 if s.length<8 then ([],0,30) else if 4096<valB (s.take 4)∨z4d (s.take 8)=false then ([],0,7)
 else if s.length<valB (s.take 4)+12 then ([],0,30) else if z4d ((s.drop 8).take (valB (s.take 4)+4))=false then ([],0,7)
 else ((s.drop 8).take (valB (s.take 4)),valB (s.take 4)+12,0)
theorem z65(p:Bytes):(z3f p).length=p.length+12:=by
 unfold z3f;rw[List.length_append,List.length_append,List.length_append,z21,z21,z21];omega
theorem z339{s:Bytes}(h:(z2f s).2.2=0):8≤s.length∧valB (s.take 4)≤4096∧z4d (s.take 8)=true∧valB (s.take 4)+12≤s.length∧z4d ((s.drop 8).take (valB (s.take 4)+4))=true∧z2f s=((s.drop 8).take (valB (s.take 4)),valB (s.take 4)+12,0):=by
 unfold z2f at h ⊢
 by_cases h1:s.length<8
 ·rw [if_pos h1] at h
  cases h
 rw[if_neg h1] at h ⊢
 by_cases h2:4096<valB (s.take 4)∨z4d (s.take 8)=false
 ·rw [if_pos h2] at h
  cases h
 rw[if_neg h2] at h ⊢
 by_cases h3:s.length<valB (s.take 4)+12
 ·rw [if_pos h3] at h
  cases h
 rw[if_neg h3] at h ⊢
 by_cases h4:z4d ((s.drop 8).take (valB (s.take 4)+4))=false
 ·rw [if_pos h4] at h
  cases h
 rw[if_neg h4];have h5:z4d (s.take 8)≠false:=fun e=>h2 (.inr e);have h6:¬4096<valB (s.take 4):=fun e=>h2 (.inl e);exact⟨by omega,by omega,by simpa using h5,by omega,by simpa using h4,rfl⟩
theorem zfd{s:Bytes}(h:(z2f s).2.2=0):(z2f s).2.1≤s.length∧12≤(z2f s).2.1∧(z2f s).1.length+12=(z2f s).2.1∧(z2f s).1.length≤4096:=by
 obtain⟨h1,h2,_,h4,_,e⟩:=z339 h;rw[e];refine⟨h4,by show 12≤valB (s.take 4)+12;omega,?_,?_⟩
 ·show ((s.drop 8).take (valB (s.take 4))).length + 12 = valB (s.take 4) + 12
  rw[List.length_take,List.length_drop];omega
 ·show ((s.drop 8).take (valB (s.take 4))).length ≤ _
  rw[List.length_take];omega
def z3a1:Nat→Bytes→List Bytes×Nat
 |0,_=>([],0)
 |f+1,s=>if (z2f s).2.2=0 then ((z2f s).1::(z3a1 f (s.drop (z2f s).2.1)).1,(z2f s).2.1+(z3a1 f (s.drop (z2f s).2.1)).2) else ([],0)
def z51(s:Bytes):List Bytes×Nat:=z3a1 (s.length+1) s
theorem z3a0:∀(f g:Nat) (s:Bytes),s.length<f→s.length<g→z3a1 f s=z3a1 g s
 |0,_,_,h,_=>by omega
 |_,0,_,_,h=>by omega
 |f+1,g+1,s,hf,hg=>by
  unfold z3a1
  split
  ·rename_i h
   have hl:=zfd h;rw[z3a0 f g (s.drop (z2f s).2.1) (by rw[List.length_drop];omega) (by rw[List.length_drop];omega)]
  ·rfl
theorem z17a{s:Bytes}(h:(z2f s).2.2≠0):z51 s=([],0):=by
 unfold z51 z3a1;rw[if_neg h]
theorem z1c4{s:Bytes}(h:(z2f s).2.2=0):z51 s=((z2f s).1::(z51 (s.drop (z2f s).2.1)).1,(z2f s).2.1+(z51 (s.drop (z2f s).2.1)).2):=by
 have hl:=zfd h;unfold z51;rw[z3a1,if_pos h,z3a0 s.length ((s.drop (z2f s).2.1).length+1) (s.drop (z2f s).2.1) (by rw[List.length_drop];omega) (by omega)]
theorem z212:∀(k:Nat) (s:Bytes),s.length≤k→(z51 s).2≤s.length∧(z51 s).1.length*12≤s.length
 |k,s,hk=>by
  by_cases h:(z2f s).2.2=0
  ·have hl := zfd h
   match k,hk with
   |0,hk=>omega
   |k+1,hk=>
    have ih:=z212 k (s.drop (z2f s).2.1) (by rw[List.length_drop];omega);rw[List.length_drop] at ih;rw[z1c4 h];constructor
    ·show (z2f s).2.1 + _ ≤ _
     omega
    ·rw [List.length_cons]
     omega
  ·rw [z17a h]
   exact⟨Nat.zero_le _,by simp⟩
theorem z177{u:Bytes}(hu:4≤u.length):z4d u=true↔zc5 4 (Crc.of (u.take (u.length - 4)))=u.drop (u.length - 4):=by
 unfold z4d;rw[beq_iff_eq,numB_iff (by exact z3d0 _) (by rw[List.length_drop];omega)]
theorem z2ff{s:Bytes}(h:(z2f s).2.2=0):s.take (z2f s).2.1=z3f (z2f s).1:=by
 obtain⟨h1,h2,h3,h4,h5,e⟩:=z339 h;rw[e];show s.take (valB (s.take 4)+12)=z3f ((s.drop 8).take (valB (s.take 4)));have hl4:(s.take 4).length=4:=by rw[List.length_take];omega
 have hl8:(s.take 8).length=8:=by rw[List.length_take];omega
 have hpl:((s.drop 8).take (valB (s.take 4))).length=valB (s.take 4):=by rw[List.length_take,List.length_drop];omega
 have hql:((s.drop 8).take (valB (s.take 4)+4)).length=valB (s.take 4)+4:=by rw[List.length_take,List.length_drop];omega
 have w1:=(z177 (by omega)).1 h3;have w2:=(z177 (by omega)).1 h5;rw[hl8,List.take_take] at w1;rw[hql,List.take_take,Nat.add_sub_cancel,Nat.min_eq_left (Nat.le_add_right _ _)] at w2;have e4:zc5 4 (valB (s.take 4))=s.take 4:=z3fc 4 _ hl4;unfold z3f;rw[hpl,e4,w2];have w1:zc5 4 (Crc.of (s.take 4))=(s.take 8).drop 4:=w1;rw[w1]
 have a1:s.take 4++(s.take 8).drop 4=s.take 8:=by
  have:=List.take_append_drop 4 (s.take 8);rw[List.take_take] at this;exact this
 have a2:(s.drop 8).take (valB (s.take 4))++((s.drop 8).take (valB (s.take 4)+4)).drop (valB (s.take 4))=(s.drop 8).take (valB (s.take 4)+4):=by
  have:=List.take_append_drop (valB (s.take 4)) ((s.drop 8).take (valB (s.take 4)+4));rw[List.take_take,Nat.min_eq_left (Nat.le_add_right _ _)] at this;exact this
 rw[a1,a2,show valB (s.take 4)+12=8+(valB (s.take 4)+4) by omega,List.take_add]
theorem z181{p rest:Bytes}(hp:p.length≤4096):z2f (z3f p++rest)=(p,p.length+12,0):=by
 have hl:=z65 p;have l4:(zc5 4 p.length).length=4:=z21 _ _;have c4:∀x:Bytes,(zc5 4 (Crc.of x)).length=4:=fun x=>z21 _ _
 have t4:(z3f p++rest).take 4=zc5 4 p.length:=by
  unfold z3f;rw[List.append_assoc,List.append_assoc,List.take_append_of_le_length (by omega),List.take_of_length_le (by omega)]
 have t8:(z3f p++rest).take 8=zc5 4 p.length++zc5 4 (Crc.of (zc5 4 p.length)):=by
  unfold z3f;rw[List.append_assoc,List.take_left' (by rw[List.length_append,l4,c4])]
 have d8:(z3f p++rest).drop 8=p++zc5 4 (Crc.of p)++rest:=by
  unfold z3f;rw[List.append_assoc,List.drop_left' (by rw[List.length_append,l4,c4])]
 have hv:valB ((z3f p++rest).take 4)=p.length:=by
  rw[t4];exact z1c8 4 _ (by have:256 ^ 4=4294967296:=rfl;omega)
 have w1:z4d ((z3f p++rest).take 8)=true:=by
  rw[t8,z177 (by rw[List.length_append,l4,c4];omega),List.length_append,l4,c4];rw[List.take_left' l4,List.drop_left' l4]
 have w2:z4d (((z3f p++rest).drop 8).take (p.length+4))=true:=by
  rw[d8,List.take_left' (by rw[List.length_append,c4]),z177 (by rw[List.length_append,c4];omega),List.length_append,c4,Nat.add_sub_cancel];rw[List.take_left' rfl,List.drop_left' rfl]
 unfold z2f;rw[hv,w1,w2,if_neg (by rw[List.length_append];omega),if_neg (by simp;omega),if_neg (by rw[List.length_append];omega),if_neg (by decide),d8,List.append_assoc,List.take_left' rfl]
section
variable {n d:Nat}{h:AHeap}{s p:Bytes}{Q:ARes→AHeap→Prop}
theorem new_r(s:Bytes)(h:AHeap):∃h',world n (d+1) 78 [z5 s] h=some (.ret (.ptr h.next 0),h')∧PR h' h.next s ⟨0,0,0⟩∧h.next<h'.next∧Tch [] h h':=by
 suffices hK:Wp (world n (d+1) 78 [z5 s] h) fun r h'=>r=.ret (.ptr h.next 0)∧PR h' h.next s ⟨0,0,0⟩∧h.next<h'.next∧Tch [] h h' by
  obtain⟨_,h',e,rfl,k⟩:=hK;exact⟨h',e,k⟩
 rw[z466];refine Wp.gcn ?_;unfold z1c2;exact y1f (Mem.nil [] h) rfl fun h2 M2=>Wp.ret ⟨Bool.eq_false_iff.2 (fun e=>by have:=Nat.le_of_ble_eq_true (show Nat.ble (h.next+1) h.next=true from e);omega),rfl,M2.at0.1,M2.at0.2.1,M2.tch⟩
theorem z444(hu:4≤s.length)(hs:s.length<1000000000)(hn:s.length<n)(hn8:8<n):world n (d+4) 99 [z5 s] h=some (.ret (.bool (z4d s)),h):=by
 have ll:=z2d s
 have s1:z43 s (z3b s - 4) (z3b s)=some (s.drop (s.length - 4)):=by
  rw[z28 (by omega) (by omega) (by omega),List.take_of_length_le (by rw[List.length_drop];omega)]
  congr 2
  omega
 have s2:z43 s 0 (z3b s - 4)=some (s.take (s.length - 4)):=by
  rw[z28 (by omega) (by omega) (by omega)];show some ((s.drop 0).take _)=_;rw[List.drop_zero]
  congr 2
  omega
 have hl4:(s.drop (s.length - 4)).length=4:=by rw[List.length_drop];omega
 obtain⟨h1,e1,k1,l1,t1⟩:=new_r (n:=n) (d:=d+2) (s.drop (s.length - 4)) h;obtain⟨h2,e2,k2,t2⟩:=u32_r (n:=n) (d:=d) k1 (Nat.zero_le _) (by omega) hn8
 have ev:(z2aa (s.drop (s.length - 4)) 4 ⟨0,0,0⟩).1=valB (s.drop (s.length - 4)):=by
  unfold z2aa;rw[if_neg (by simp),if_neg (by show ¬_<0+4;omega)];show valB (((s.drop (s.length - 4)).drop 0).take 4)=_;rw[List.drop_zero,List.take_of_length_le (by omega)]
 rw[ev] at e2;apply Wp.eq;rw[z334];refine y3b ?_;unfold z123;refine yd (by omega) (by omega) (Wp.obind s1 (Wp.obind s2 (Wp.callN e1 (Wp.callN e2 (Wp.obind (z7 _ _) (Wp.callN (sum_w (n:=n) (d:=d+1) (by rw[List.length_take];omega) (by rw[List.length_take];omega)) (Wp.obind (z7 _ _) (Wp.lett (Wp.ret ⟨(t1.trans' t2 fun b hb=>.inr (by rw[List.mem_singleton.1 hb];exact Nat.le_refl _)).above,rfl,?_,rfl⟩)))))))));unfold z4d
 by_cases hc:valB (s.drop (s.length - 4))=Crc.of (s.take (s.length - 4))
 ·rw[z127 (by omega),beq_iff_eq.2 hc]
 ·rw[zca (by omega),beq_eq_false_iff_ne.2 hc]
theorem z428(hs:s.length<1000000)(hn:s.length<n)(hn8:8<n)(hx:zbf 5 h.ex=false):world n (d+3) 89 [z5 s] h=some (.ret (z5 (s++zc5 4 (Crc.of s))),h):=by
 apply Wp.eq;rw[z2e6];refine y29 ?_;unfold zf5;have hc:=z3d0 s;exact Wp.callN (sum_w (n:=n) (d:=d) (by omega) hn) (Wp.obind (z7 _ _) (Wp.callN (u32_w (n:=n) (d:=d) hn8 hc hx) (Wp.obind (ze _) (Wp.obind (zb3 (by rw[z21];omega)) (Wp.ret ⟨⟨rfl,rfl⟩,fun _=>⟨rfl,rfl⟩⟩)))))
theorem put_w(hn:4096<n)(hx:zbf 5 h.ex=false):world n (d+4) 82 [z5 p] h=some (.ret (if 4096<p.length then .tup [z5 [],.int .i64 3] else .tup [z5 (z3f p),.int .i64 0]),h):=by
 have ll:=z2d p;apply Wp.eq;rw[z3eb];refine y29 ?_;unfold z182
 by_cases hp:4096<p.length
 ·rw [if_pos hp]
  exact Wp.lett (y9 (by rw[decide_eq_true_eq];omega) (Wp.ret ⟨⟨rfl,rfl⟩,fun _=>⟨rfl,rfl⟩⟩))
 ·rw [if_neg hp]
  have n4:(zc5 4 p.length).length=4:=z21 _ _;refine Wp.lett (y8 (by rw[decide_eq_false_iff_not];omega) (y19 (by omega) (by omega) ?_));rw[ll];refine Wp.callN (u32_w (n:=n) (d:=d+1) (by omega) (by omega) hx) (Wp.obind (ze _) (Wp.callN (z428 (n:=n) (d:=d) (by omega) (by omega) (by omega) hx) (Wp.obind (ze _) (Wp.callN (z428 (n:=n) (d:=d) (by omega) (by omega) (by omega) hx) (Wp.obind (ze _) (Wp.obind (zb3 ?_) (Wp.ret ⟨⟨rfl,rfl⟩,fun _=>⟨rfl,rfl⟩⟩)))))));rw[List.length_append,List.length_append,z21,z21,z21];omega
theorem take_w(hs:s.length<1000000000)(hn:5000<n):world n (d+5) 93 [z5 s] h=some (.ret (.tup [z5 (z2f s).1,.int .i64 ((z2f s).2.1:Int),.int .i64 (z2f s).2.2]),h):=by
 have ll:=z2d s;obtain⟨h1,e1,k1,l1,t1⟩:=new_r (n:=n) (d:=d+3) s h;obtain⟨h2,e2,k2,t2⟩:=u32_r (n:=n) (d:=d+1) k1 (Nat.zero_le _) (by omega) (by omega);have T:Tch [] h h2:=t1.trans' t2 fun b hb=>.inr (by rw[List.mem_singleton.1 hb];exact Nat.le_refl _);have tA:=T.above;apply Wp.eq;rw[z389];refine y3b ?_;unfold z151 z2f
 by_cases h8:s.length<8
 ·rw [if_pos h8]
  exact Wp.lett (y9 (by rw[decide_eq_true_eq];omega) (Wp.ret ⟨(Tch.refl [] h).above,rfl,rfl,rfl⟩))
 rw[if_neg h8]
 have ev:(z2aa s 4 ⟨0,0,0⟩).1=valB (s.take 4):=by
  unfold z2aa;rw[if_neg (by simp),if_neg (by show ¬_<0+4;omega)];rfl
 have hv:valB (s.take 4)<4294967296:=by
  have:=z49c (s.take 4);rw[List.length_take,Nat.min_eq_left (by omega)] at this;exact this
 rw[ev] at e2
 generalize hV:valB (s.take 4)=V at *
 refine Wp.lett (y8 (by rw[decide_eq_false_iff_not];omega) (Wp.callN e1 (Wp.callN e2 (Wp.obind (z7 _ _) (Wp.lett (y7 fun j20 e20=>?_))))))
 have bad:(4096<V∨z4d (s.take 8)=false)→Wp (j20 true h2) fun r h'=>Above h h'∧r.val.scal=true∧r=ARes.ret (AV.tup [z5 (if 4096<V∨z4d (s.take 8)=false then ([],0,7) else if s.length<V+12 then ([],0,30) else if z4d ((s.drop 8).take (V+4))=false then ([],0,7) else ((s.drop 8).take V,V+12,0):Bytes×Nat×Int).1,.int .i64 ((if 4096<V∨z4d (s.take 8)=false then ([],0,7) else if s.length<V+12 then ([],0,30) else if z4d ((s.drop 8).take (V+4))=false then ([],0,7) else ((s.drop 8).take V,V+12,0):Bytes×Nat×Int).2.1:Int),.int .i64 (if 4096<V∨z4d (s.take 8)=false then ([],0,7) else if s.length<V+12 then ([],0,30) else if z4d ((s.drop 8).take (V+4))=false then ([],0,7) else ((s.drop 8).take V,V+12,0):Bytes×Nat×Int).2.2])∧h=h:=fun hc=>by
  rw[if_pos hc,e20];exact y9 rfl (Wp.ret ⟨tA,rfl,rfl,rfl⟩)
 by_cases h4:4096<V
 ·exact y9 (by rw[decide_eq_true_eq];omega) (bad (.inl h4))
 have s8:z43 s 0 8=some (s.take 8):=by
  rw[z28 (by omega) (by omega) (by omega)];rfl
 refine y8 (by rw[decide_eq_false_iff_not];omega) (Wp.obind s8 (Wp.callN (z444 (n:=n) (d:=d) (by rw[List.length_take];omega) (by rw[List.length_take];omega) (by rw[List.length_take];omega) (by omega)) (Wp.obind (z11 _) (Wp.lett ?_))));cases hw:z4d (s.take 8) with
 |false=>
  rw[hw] at bad;exact bad (.inr rfl)
 |true=>
  rw[if_neg (by simp;omega),e20];refine y8 rfl (yd (by omega) (by omega) (yd (by omega) (by omega) (yd (by omega) (by omega) (Wp.lett ?_))))
  by_cases h12:s.length<V+12
  ·rw [if_pos h12]
   exact y9 (by rw[decide_eq_true_eq];omega) (Wp.ret ⟨tA,rfl,rfl,rfl⟩)
  rw[if_neg h12]
  have sA:z43 s 8 (8+(V:Int)+4)=some ((s.drop 8).take (V+4)):=by
   rw[z28 (by omega) (by omega) (by omega),show (8+(V:Int)+4).toNat - (8:Int).toNat=V+4 by omega];rfl
  have sB:z43 s 8 (8+(V:Int)+4 - 4)=some ((s.drop 8).take V):=by
   rw[z28 (by omega) (by omega) (by omega),show (8+(V:Int)+4 - 4).toNat - (8:Int).toNat=V by omega];rfl
  have hql:((s.drop 8).take (V+4)).length=V+4:=by rw[List.length_take,List.length_drop];omega
  refine y8 (by rw[decide_eq_false_iff_not];omega) (Wp.obind sA (Wp.callN (z444 (n:=n) (d:=d) (by omega) (by omega) (by omega) (by omega)) (Wp.obind (z11 _) (Wp.lett ?_))));cases hw2:z4d ((s.drop 8).take (V+4)) with
  |false=>
   rw[if_pos rfl];exact y9 rfl (Wp.ret ⟨tA,rfl,rfl,rfl⟩)
  |true=>
   rw[if_neg (by decide)];refine y8 rfl (yd (by omega) (by omega) (Wp.obind sB (Wp.ret ⟨tA,rfl,?_,rfl⟩)));rw[show 8+(V:Int)+4=((V+12:Nat):Int) by omega]
end
abbrev z276:Nat:=9
abbrev z203:Nat:=81
abbrev TIn:Nat:=3
noncomputable abbrev z378(l:List Bytes):List (List AV):=l.map fun b=>[z5 b]
theorem fitStr:z482 Try.prog z276 16=true:=by kernel_rfl
theorem bldStr(h:AHeap)(b:Bytes):z1df Try.prog h z203 1 [(0,z5 b)]=z83 h z276 [z5 b] 1 1:=by
 obtain⟨v,hv⟩:∃v,enc b=v:=⟨_,rfl⟩;show z1df Try.prog h z203 1 [(0,.str b.length (enc b))]=z83 h z276 [.str b.length (enc b)] 1 1
 generalize b.length=m
 generalize enc b=w
 kernel_rfl
theorem Sli.str{lo:Nat}{H:AHeap}{v:AV}{l:List Bytes}{p:Bytes}(k:Sli z276 1 lo H v (z378 l))(hlo:lo≤H.next)(hx:zbf z276 H.ex=false)(hl:l.length<60000000){K:AV→AHeap→R}{Q:ARes→AHeap→Prop}(hk:∀v' H',Sli z276 1 lo H' v' (z378 (l++[p]))→Ab lo H H'→H.next≤H'.next→Wp (K v' H') Q):
  Wp (Abs.outK (z1df Try.prog H z203 1 [(0,z5 p)]) fun v12 h_30=>Abs.outK (z34 Try.prog h_30 z203 z203 v v12) K) Q:=by
 refine y30 (Mem.nil [] H) (bldStr H p) rfl hx fun h2 M2=>?_;have t2:=M2.tch;have k2:=k.tch t2 (fun _ h=>nomatch h);have n2:=t2.1;have kr:=M2.at0.1
 have hf:z10d h2 1 1 (.sl H.next 0 1 1)=some [z5 p]:=by
  rw[z143 (Nat.le_refl _)];exact kr.part (o:=0) (n:=1) (Nat.le_refl _)
 obtain⟨v',h',e,k',a'⟩:=k2.push (P:=Try.prog) (t:=z203) (u:=z203) (B:=16) (by kernel_rfl) (by kernel_rfl) (by kernel_rfl) fitStr (by rw[t2.2.1];exact hx) (by omega) rfl hf rfl rfl (by rw[List.length_map];omega) (by rw[List.length_map];omega)
 have e3:z378 l++[[z5 p]]=z378 (l++[p]):=by
  unfold z378;rw[List.map_append];rfl
 rw[e3] at k';exact Wp.outK e (hk v' h' k' ((t2.above.ab hlo).trans a') (Nat.le_trans n2 a'.next))
section
variable {n d D bx y:Nat}{h H:AHeap}{s p:Bytes}{Q:ARes→AHeap→Prop}{v v1:AV}
theorem z3cc{both:z4a}{yb:AV}{Inv Fin:Nat→AHeap→Prop}(hs:s.length<1000000000)(htk:∀(u:Bytes) (h:AHeap),u.length<1000000000→both false 93 [z5 u] h=some (.ret (.tup [z5 (z2f u).1,.int .i64 ((z2f u).2.1:Int),.int .i64 (z2f u).2.2]),h))(hbx:∀i H,Inv i H→RowH H bx z276 [z5 s])(step:∀i H,i≤s.length→(z2f (s.drop i)).2.2=0→Inv i H→∃g H',dynB Try.prog both yb [.int .i64 (i:Int),z5 (z2f (s.drop i)).1] H=some (.ret (.bool g),H')∧(g=true→Inv (i+(z2f (s.drop i)).2.1) H')∧(g=false→Fin i H'))(hk:∀i H,i≤s.length→(z2f (s.drop i)).2.2≠0→Inv i H→Q (.ret (.tup [])) H)(hf:∀i H,i≤s.length→(z2f (s.drop i)).2.2=0→Fin i H→Q (.ret (.tup [])) H):
  ∀(fu i:Nat) (H:AHeap),s.length - i<fu→i≤s.length→Inv i H→Wp (zde both yb (.ptr bx 0) fu (i:Int) H) Q
 |0,_,_,hfu,_,_=>by omega
 |fu+1,i,H,hfu,hi,I=>by
  have ll:=z2d s
  have sA:z43 s (i:Int) (z3b s)=some (s.drop i):=by
   rw[z28 (by omega) (by omega) (by omega),List.take_of_length_le (by rw[List.length_drop];omega)];rfl
  rw[z1a8];unfold z10c;refine Wp.obind (RowH.cell' (hbx i H I) rfl) (Wp.obind (ze _) (Wp.obind sA (Wp.callN (htk _ H (by rw[List.length_drop];omega)) (Wp.obind (zf9 _ _) (Wp.obind (ze _) (Wp.obind (zf8 _ _ _) (Wp.obind (z7 _ _) (Wp.obind (z165 _ _ _ _) (Wp.obind (z7 _ _) (Wp.lett (y7 fun j23 e23=>?_)))))))))))
  by_cases he:(z2f (s.drop i)).2.2=0
  ·have hl := zfd he
   rw[List.length_drop] at hl;obtain⟨g,H',e,y1,y2⟩:=step i H hi he I;refine y8 (z185 he) (Wp.callN e (Wp.obind (z11 _) (Wp.lett ?_)));rw[e23]
   cases g with
   |false=>exact y9 rfl (y3a (Wp.ret (hf i H' hi he (y2 rfl))))
   |true=>
    refine y8 rfl (yd (by omega) (by omega) ?_);rw[show (i:Int)+((z2f (s.drop i)).2.1:Int)=((i+(z2f (s.drop i)).2.1:Nat):Int) by omega];exact z3cc hs htk hbx step hk hf fu (i+(z2f (s.drop i)).2.1) H' (by omega) (by omega) (y1 rfl)
  ·refine y9 (z1af he) ?_
   rw[e23];exact y9 rfl (y3a (Wp.ret (hk i H hi he I)))
theorem fall_iter{Inv Fin:Nat→AHeap→Prop}(hs:s.length<1000000000)(hn:1000000000<n)(hbx:∀i H,Inv i H→RowH H bx z276 [z5 s])(step:∀i H,i≤s.length→(z2f (s.drop i)).2.2=0→Inv i H→∃g H',dynB Try.prog (wL n (D+5) (d+1)) (.yld y) [.int .i64 (i:Int),z5 (z2f (s.drop i)).1] H=some (.ret (.bool g),H')∧(g=true→Inv (i+(z2f (s.drop i)).2.1) H')∧(g=false→Fin i H'))(h0:Inv 0 H):∃H',wL n (D+5) (d+2) false 92 [.yld y,.ptr bx 0] H=some (.ret (.tup []),H')∧((∃i,i≤s.length∧(z2f (s.drop i)).2.2≠0∧Inv i H')∨∃i,i≤s.length∧(z2f (s.drop i)).2.2=0∧Fin i H'):=by
 suffices hK:Wp (zec (wL n (D+5) (d+1)) n (.yld y) (.ptr bx 0) H) fun r H'=>r=.ret (.tup [])∧((∃i,i≤s.length∧(z2f (s.drop i)).2.2≠0∧Inv i H')∨∃i,i≤s.length∧(z2f (s.drop i)).2.2=0∧Fin i H') by
  obtain⟨_,H',e,rfl,k⟩:=hK;exact⟨H',z2e9 n (D+5) (d+1) _ _ e,k⟩
 unfold zec;exact z3cc (Inv:=Inv) (Fin:=Fin) hs (fun u h hu=>(z1ad 93).trans (take_w (n:=n) (d:=D) hu (by omega))) hbx step (fun i H h1 h2 I=>⟨rfl,.inl ⟨i,h1,h2,I⟩⟩) (fun i H h1 h2 I=>⟨rfl,.inr ⟨i,h1,h2,I⟩⟩) n 0 H (by omega) (Nat.zero_le _) h0
theorem fall_w(s:Bytes)(H:AHeap):∃H',world n (d+1) 87 [z5 s] H=some (.ret (.fn 92 [] [.ptr H.next 0]),H')∧RowH H' H.next z276 [z5 s]∧H.next<H'.next∧Tch [] H H':=by
 suffices hA:Wp (world n (d+1) 87 [z5 s] H) fun r h'=>r=.ret (.fn 92 [] [.ptr H.next 0])∧RowH h' H.next z276 [z5 s]∧H.next<h'.next∧Tch [] H h' by
  obtain⟨_,h',e,rfl,t⟩:=hA;exact⟨h',e,t⟩
 rw[z3ec];unfold z183;refine y12 (Mem.nil [] H) fun h2 M2=>Wp.ret ⟨rfl,M2.at0.1,M2.at0.2.1,M2.tch⟩
theorem recS_ne{e b c:Nat}{l:List AV}{o:AKeep}(k:RowH H c e l)(hb:H.get b=some (.obj o)):c≠b:=by
 intro e;subst e;obtain⟨t,h1,_⟩:=k;rw[h1] at hb;cases hb
theorem RowH.neT{b b' e e':Nat}{l l':List AV}(k:RowH H b e l)(k':RowH H b' e' l')(hne:e≠e'):b≠b':=by
 intro hb;subst hb;obtain⟨t,h1,_⟩:=k;obtain⟨t',h2,_⟩:=k';rw[h1] at h2;simp only[Option.some.injEq,AObj.row.injEq] at h2;exact hne h2.2.2
theorem y3d{e sz lo:Nat}{rows:List (List AV)}(k:Sli e sz lo H v rows):v.one=true∧AV.cells v=[v]:=by
 rcases k.2 with⟨_,rfl⟩|⟨c,_,rfl,_⟩<;>exact⟨rfl,rfl⟩
end
section
variable {n d D bx y:Nat}{h H:AHeap}{s p:Bytes}{Q:ARes→AHeap→Prop}{v v1:AV}
theorem z46d{pl gl lo i:Nat}{c0:Int}{l:List Bytes}{t0:T AV}{Dm:Nat}(hrec:H.get y=some (z289 .ready .none (z12 n).N (z12 n).c t0 Dm))(hy:y<lo)(hlo:lo≤H.next)(kp:RowH H pl z203 [v])(hpl:pl<lo)(kg:RowH H gl TIn [.int .i64 c0])(hgl:gl<lo)(k:Sli z276 1 lo H v (z378 l))(hx:H.ex=[89])(hl:l.length<60000000)(hi:i+p.length<2000000000)(hg:((z351 (z12 n).N (y1a (z12 n).c).toList [.int .i64 (i:Int),z5 p] t0).bind fun t=>z1b1 t (z12 n).sa)=some [.ptr pl 0,.ptr gl 0,.int .i64 (i:Int),z5 p]):
  ∃H' v',wL n D (d+1) true y [.int .i64 (i:Int),z5 p] H=some (.ret (.bool true),H')∧RowH H' pl z203 [v']∧RowH H' gl TIn [.int .i64 ((i+(p.length+12):Nat):Int)]∧Sli z276 1 lo H' v' (z378 (l++[p]))∧H'.get y=some (z289 .ready .none (z12 n).N (z12 n).c t0 Dm)∧H.next≤H'.next∧H'.ex=H.ex∧∀b,b<lo→b≠pl→b≠gl→b≠y→H'.get b=H.get b:=by
 have npl:=recS_ne kp hrec;have ngl:=recS_ne kg hrec;have npg:=RowH.neT kp kg (by decide);have ll:=z2d p;have key:=round_W (both:=wL n D d) (sites:=wLS n) (G:=fun z H'=>z=0∧∃v',RowH H' pl z203 [v']∧RowH H' gl TIn [.int .i64 ((i+(p.length+12):Nat):Int)]∧Sli z276 1 lo H' v' (z378 (l++[p]))∧H'.get y=some (z289 (stZ (z2bb z)) (z2bb z) (z12 n).N (z12 n).c t0 Dm)∧H.next≤H'.next∧H'.ex=H.ex∧∀b,b<lo→b≠pl→b≠gl→b≠y→H'.get b=H.get b) hrec (fun st jj=>z243 n st jj t0 Dm) hg ?_
 ·obtain ⟨z, H', e, rfl, v', k1, k2, k3, k4, k5⟩ := key
  rw[wL_r];exact⟨H',v',e,k1,k2,k3,k4,k5⟩
 ·show Wp (z97 (wL n D d) n [.ptr pl 0, .ptr gl 0, .int .i64 (i : Int), z5 p] H) _
  rw[z1dc];unfold z85;refine Wp.ret ⟨_,rfl,rfl,by kernel_rfl,?_⟩;have tp:∀(G:AHeap) (o:AObj),Tch [y] G (G.put y o):=fun G o=>Tch.put (.inl (List.mem_singleton.2 rfl)) _;have m1:∀{a b:Nat},a≠b→a ∉ [b]:=fun h h2=>h (List.mem_singleton.1 h2);have t1:=tp H (z289 .busy .none (z12 n).N (z12 n).c t0 Dm);have g1:=z1f (H:=H) y (z289 .busy .none (z12 n).N (z12 n).c t0 Dm);show Wp (z96 (wL n D d) n [.ptr pl 0,.ptr gl 0,.int .i64 (i:Int),z5 p] _) _;rw[z1db];unfold z84;have kp1:=kp.tch t1 (by omega) (m1 npl);have kg1:=kg.tch t1 (by omega) (m1 ngl);have k1:=k.tch t1 (fun b hb=>by rw[List.mem_singleton.1 hb];exact hy);refine Wp.obind (RowH.cell' kp1 rfl) (Sli.str k1 hlo (by show zbf z276 H.ex=false;rw[hx];rfl) hl fun v2 H2 k2 a2 n2=>?_);have n2':H.next≤H2.next:=n2;have kp2:=kp1.same (a2.get pl hpl);have kg2:=kg1.same (a2.get gl hgl);rw[(y3d k2).2];refine Wp.st1 kp2 Nat.zero_lt_one (y3d k2).1 fun H3 kp3 t3 n3=>yd (by omega) (by omega) (yd (by omega) (by omega) (yd (by omega) (by omega) ?_));have kg3:=kg2.tch t3 (by omega) (m1 (fun h=>npg h.symm));refine Wp.st1 kg3 Nat.zero_lt_one rfl fun H4 kg4 t4 n4=>Wp.ret ⟨0,rfl,?_,rfl,v2,?_,?_,?_,z1f _ _,?_,?_,?_⟩
  ·rw [t4.2.2 y (by omega) (m1 (fun h => ngl h.symm)), t3.2.2 y (by omega) (m1 (fun h => npl h.symm)), a2.get y hy]
   exact g1
  ·exact(kp3.tch t4 (by omega) (m1 npg)).tch (tp _ _) (by omega) (m1 npl)
  ·have := kg4.tch (tp _ (z289 (stZ (z2bb 0)) (z2bb 0) (z12 n).N (z12 n).c t0 Dm)) (by omega) (m1 ngl)
   rw[show (i:Int)+8+z3b p+4=((i+(p.length+12):Nat):Int) by omega] at this;exact this
  ·exact((k2.tch t3 fun b hb=>by rw[List.mem_singleton.1 hb];exact hpl).tch t4 fun b hb=>by rw[List.mem_singleton.1 hb];exact hgl).tch (tp _ _) fun b hb=>by rw[List.mem_singleton.1 hb];exact hy
  ·show H.next ≤ H4.next
   omega
  ·show H4.ex = H.ex
   rw[t4.2.1,t3.2.1,a2.ex];rfl
  ·intro b hb h1 h2 h3
   rw[z16 _ (fun h=>h3 h.symm),t4.2.2 b (by omega) (m1 h2),t3.2.2 b (by omega) (m1 h1),a2.get b hb,z16 _ (fun h=>h3 h.symm)]
end
section
variable {n d D:Nat}{h H:AHeap}{s p:Bytes}{Q:ARes→AHeap→Prop}{v w:AV}
theorem z39d{s:Bytes}{i:Nat}{acc:List Bytes}(he:(z2f (s.drop i)).2.2=0)(h1:acc++(z51 (s.drop i)).1=(z51 s).1)(h2:i+(z51 (s.drop i)).2=(z51 s).2):
  (acc++[(z2f (s.drop i)).1])++(z51 (s.drop (i+(z2f (s.drop i)).2.1))).1=(z51 s).1∧(i+(z2f (s.drop i)).2.1)+(z51 (s.drop (i+(z2f (s.drop i)).2.1))).2=(z51 s).2:=by
 rw[z1c4 he,List.drop_drop] at h1 h2;refine⟨?_,?_⟩
 ·rw [List.append_assoc]
  exact h1
 ·have h2 : i + ((z2f (s.drop i)).2.1 + _) = _ := h2
  omega
theorem z42d{s:Bytes}{i:Nat}{acc:List Bytes}(he:(z2f (s.drop i)).2.2≠0)(h1:acc++(z51 (s.drop i)).1=(z51 s).1)(h2:i+(z51 (s.drop i)).2=(z51 s).2):acc=(z51 s).1∧i=(z51 s).2:=by
 rw[z17a he] at h1 h2;rw[List.append_nil] at h1;exact⟨h1,by omega⟩
set_option maxHeartbeats 1000000 in
theorem scan_w(hs:s.length<600000000)(hn:1000000000<n)(hx:H.ex=[89]):∃H' v,wL n (D+5) (d+4) false 77 [z5 s] H=some (.ret (.tup [v,.int .i64 ((z51 s).2:Int)]),H')∧Sli z276 1 H.next H' v (z378 (z51 s).1)∧Tch [] H H':=by
 suffices hK:Wp (zf6 (wL n (D+5) (d+3)) n s H) fun r H'=>∃v,r=.ret (.tup [v,.int .i64 ((z51 s).2:Int)])∧Sli z276 1 H.next H' v (z378 (z51 s).1)∧Tch [] H H' by
  obtain⟨_,H',e,v,rfl,k⟩:=hK;exact⟨H',v,z336 n (D+5) (d+3) _ e,k⟩
 unfold zf6;refine y12 (Mem.nil [] H) fun h2 M2=>y12 M2 fun h4 M4=>?_;have l2:=M2.at0.2.1;have kp4:=M4.at1.1;have kg4:=M4.at0.1;have lg:=M4.at0.2.1;have t4:=M4.tch;have n4:=t4.1;obtain⟨h8,e8,kx8,lx8,t8⟩:=fall_w (n:=n) (d:=D+4) s h4;have n8:=t8.1;have kp8:=kp4.tch t8 (by omega) (fun h=>nomatch h);have kg8:=kg4.tch t8 (by omega) (fun h=>nomatch h);refine Wp.callN ((z1ad 87).trans e8) ?_;obtain⟨t0,ht0⟩:∃t0,t0=Fr.tree [(2,z13 H),(3,z13 h2),(7,AV.fn 92 [] [.ptr h4.next 0])]:=⟨_,rfl⟩
 have hg:∀(i:Nat) (q:Bytes),((z351 (z12 n).N (y1a (z12 n).c).toList [.int .i64 (i:Int),z5 q] t0).bind fun t=>z1b1 t (z12 n).sa)=some [.ptr H.next 0,.ptr h2.next 0,.int .i64 (i:Int),z5 q]:=fun i q=>by
  rw[ht0]
  kernel_rfl
 rw[←ht0];have t1:=rngH_tch [] (z12 n).N (z12 n).c t0 h8;have n1:=z4b0 (z12 n).N (z12 n).c t0 h8;have r1:=rngH_rec (z12 n).N (z12 n).c t0 h8;have d1:=z4b1 (z12 n).N (z12 n).c t0 h8;have x1:(z496 (z12 n).N (z12 n).c t0 h8).ex=[89]:=by rw[t1.2.1,t8.2.1,t4.2.1,hx]
 obtain⟨Hs,hHs⟩:∃Hs,Hs=z496 (z12 n).N (z12 n).c t0 h8:=⟨_,rfl⟩;rw[←hHs] at t1 n1 r1 d1 x1;have kp1:=kp8.tch t1 (by omega) (fun h=>nomatch h);have kg1:=kg8.tch t1 (by omega) (fun h=>nomatch h);have kx1:=kx8.tch t1 lx8 (fun h=>nomatch h)
 obtain⟨H',e,hq⟩:=fall_iter (n:=n) (D:=D) (d:=d+1) (H:=Hs) (y:=h8.next+1) (bx:=h4.next) (s:=s)
  (Inv:=fun i H2=>∃acc v2,RowH H2 H.next z203 [v2]∧RowH H2 h2.next TIn [.int .i64 (i:Int)]∧Sli z276 1 Hs.next H2 v2 (z378 acc)∧H2.get (h8.next+1)=some (z289 .ready .none (z12 n).N (z12 n).c t0 h8.next)∧Hs.next≤H2.next∧H2.ex=[89]∧(∀b,b<Hs.next→b≠H.next→b≠h2.next→b≠h8.next+1→H2.get b=Hs.get b)∧acc++(z51 (s.drop i)).1=(z51 s).1∧i+(z51 (s.drop i)).2=(z51 s).2)
  (Fin:=fun _ _=>False) (by omega) hn
  (fun i H2 I => by
   obtain⟨acc,v2,_,_,_,_,_,_,k6,_⟩:=I;exact kx1.same (k6 _ (by omega) (by omega) (by omega) (by omega)))
  (fun i H2 hi he I => by
   obtain⟨acc,v2,a1,a2,a3,a4,a5,a6,a7,a8,a9⟩:=I;have hl:=zfd he;rw[List.length_drop] at hl
   have hacc:acc.length*12≤s.length:=by
    have:=(z212 s.length s (Nat.le_refl _)).2;rw[←a8,List.length_append] at this;omega
   obtain⟨H3,v3,e3,b1,b2,b3,b4,b5,b6,b7⟩:=z46d (n:=n) (D:=D+5) (d:=d+1) (y:=h8.next+1) (p:=(z2f (s.drop i)).1) a4 (by omega) a5 a1 (by omega) a2 (by omega) a3 a6 (by omega) (by omega) (hg i _);obtain⟨c1,c2⟩:=z39d he a8 a9;refine⟨true,H3,?_,fun _=>⟨acc++[(z2f (s.drop i)).1],v3,b1,?_,b3,b4,by omega,by rw[b6,a6],fun b g1 g2 g3 g4=>(b7 b g1 g2 g3 g4).trans (a7 b g1 g2 g3 g4),c1,c2⟩,fun h=>nomatch h⟩
   ·rw [dynB_yld a4 (by kernel_rfl)]
    exact e3
   ·rw [hl.2.2.1] at b2
    exact b2)
  ⟨[],.nsl,kp1,kg1,Sli.nil _ _ _ _,r1,Nat.le_refl _,x1,fun _ _ _ _ _=>rfl,rfl,Nat.zero_add _⟩
 rcases hq with⟨i,hi,he,acc,v2,a1,a2,a3,a4,a5,a6,a7,a8,a9⟩|⟨_,_,_,hF⟩
 ·obtain ⟨rfl, hie⟩ := z42d he a8 a9
  rw[hHs] at e;refine Wp.rng (by kernel_rfl) e a4 (by decide) (fun _=>?_) (fun h=>nomatch h) (fun _ h=>nomatch h);have m1:∀{a b:Nat},a≠b→a ∉ [b]:=fun h h2=>h (List.mem_singleton.1 h2);have tp:∀(G:AHeap) (b:Nat) (o:AObj),Tch [b] G (G.put b o):=fun G b o=>Tch.put (.inl (List.mem_singleton.2 rfl)) _;have t9:=tp H' (h8.next+1) (z289 .exhausted .none (z12 n).N (z12 n).c t0 h8.next);have kp9:=a1.tch t9 (by omega) (m1 (by omega));have kg9:=a2.tch t9 (by omega) (m1 (by omega));have k9:=a3.tch t9 (fun b hb=>by rw[List.mem_singleton.1 hb];omega);have hv1:=y3d a3;refine Wp.obind (RowH.cell' kp9 rfl) (Wp.obind (RowH.cell' kg9 rfl) (Wp.obind (z7 _ _) ?_));rw[hv1.2];refine Wp.st1 kp9 Nat.zero_lt_one hv1.1 fun h10 kp10 t10 n10=>?_;have kg10:=kg9.tch t10 (by show h2.next<H'.next;omega) (m1 (by omega));have hre:z86 Try.prog h10 TIn (z13 h2) (.int .i64 (i:Int))=true:=ze4 (by kernel_rfl) (show zc h10 (.ptr h2.next 0)=some (.int .i64 (i:Int)) from RowH.cell' kg10 rfl);refine Wp.chk (by rw[hre];rfl) (Wp.st1 kg10 Nat.zero_lt_one rfl fun h11 kg11 t11 n11=>?_);have n10':h10.next=H'.next:=n10;have kp11:=kp10.tch t11 (by omega) (m1 (by omega))
  have hm:h11.get h8.next=some (.obj .dfr):=by
   rw[t11.2.2 _ (by omega) (m1 (by omega)),t10.2.2 _ (by show h8.next<H'.next;omega) (m1 (by omega)),z16 _ (by omega),a7 _ (by omega) (by omega) (by omega) (by omega)];exact d1
  refine Wp.marks1 hm (y3a ?_);have t12:=tp h11 h8.next (.obj .shut);have kp12:=kp11.tch t12 (by omega) (m1 (by omega));have kg12:=kg11.tch t12 (by omega) (m1 (by omega))
  have lo1:∀b,b<H.next→(h11.put h8.next (.obj .shut)).get b=H.get b:=fun b hb=>by
   rw[z16 _ (by omega),t11.2.2 _ (by omega) (m1 (by omega)),t10.2.2 _ (by show b<H'.next;omega) (m1 (by omega)),z16 _ (by omega),a7 _ (by omega) (by omega) (by omega) (by omega),t1.2.2 b (by omega) (fun h=>nomatch h),t8.2.2 b (by omega) (fun h=>nomatch h),t4.2.2 b hb (fun h=>nomatch h)]
  refine Wp.obind (RowH.cell' kp12 rfl) (Wp.obind (RowH.cell' kg12 rfl) (Wp.ret ⟨v2,?_,?_,?_,?_,fun b hb _=>lo1 b hb⟩))
  ·rw[hie]
  ·have ka := ((k9.tch t10 fun b hb => by rw [List.mem_singleton.1 hb]; omega).tch t11 fun b hb => by rw [List.mem_singleton.1 hb]; omega).tch t12 fun b hb => by rw [List.mem_singleton.1 hb]; omega
   refine⟨ka.1,?_⟩
   rcases ka.2 with h0|⟨c,h1,h2,h3,h4,h5⟩
   ·exact .inl h0
   ·exact .inr ⟨c,h1,h2,by omega,h4,h5⟩
  ·show H.next ≤ h11.next
   omega
  ·show h11.ex = H.ex
   rw[t11.2.1,t10.2.1];show H'.ex=H.ex;rw[a6,hx]
 ·exact hF.elim
end
abbrev z2dd:Nat:=89
abbrev TU8:Nat:=5
abbrev BldW(h:AHeap)(b c:Nat)(l:Bytes):Prop:=BldR z2dd TU8 h b c l
theorem z2c8(h:AHeap):z75 Try.prog h .eql 87 true (some .nilp) (some .nilp)=some (.val (.bool true),h):=by kernel_rfl
theorem z2c7(h:AHeap)(b:Nat):z75 Try.prog h .eql 87 true (some (.ptr b 0)) (some .nilp)=some (.val (.bool false),h):=by kernel_rfl
theorem z268(h:AHeap)(b:Nat):z2c6 Try.prog h 75 [.ptr b 0]=some (.val (.ptr b 0),h):=by kernel_rfl
theorem z3db(P:Program)(h:AHeap)(op:BinOp)(t:TypeId)(lit:Bool)(b o o':Nat):z21c P h op t lit (some (.ptr b o)) (some (.ptr b o'))=z75 P h op t lit (some (.ptr b o)) (some (.ptr b o')):=by
 have hb:Nat.beq b b=true:=Nat.beq_refl b;simp only[z21c,z1a2,hb,Bool.not_true,Bool.false_and,Bool.and_false]
theorem z327{h:AHeap}{b:Nat}{t:T AV}(hb:h.get b=some (.row 2 t z2dd)):z7b Try.prog h 87 147 (some (.ptr b 0))=some (.val (.ptr b 0),h):=
 z419 (k:=1) (by kernel_rfl) (by kernel_rfl) hb
theorem z3d3{h:AHeap}{b:Nat}{t:T AV}(hb:h.get b=some (.row 2 t z2dd))(hx:zbf z2dd h.ex=true):z7b Try.prog h 147 87 (some (.ptr b 0))=some (.val (.ptr b 0),h):=
 conv_safe (u:=z2dd) (by kernel_rfl) (by kernel_rfl) hb hx (by kernel_rfl)
theorem z43b(h:AHeap)(b:Nat):z75 Try.prog h .neq 87 false (some (.ptr b 0)) (some (.ptr b 0))=some (.val (.bool false),h):=
 neq_self (u:=z2dd) (by kernel_rfl)
section
variable {n d b c:Nat}{h:AHeap}{l:Bytes}{Q:ARes→AHeap→Prop}
theorem z418(k:BldW h b c l)(hx:zbf z2dd h.ex=true):∃h',world n (d+1) 57 [.ptr b 0] h=some (.ret (.tup []),h')∧BldW h' b c l∧Tch [b] h h':=by
 obtain⟨a,buf,k1,k2,k3,k4⟩:=k;apply Wp.ex;rw[zb5];unfold z2e
 repeat(((with_reducible apply Wp.obind);first|(with_reducible first|exact zf _ _|exact z8 _ _ _)|((with_reducible apply RowH.cell');(with_reducible assumption);rfl)))
 rcases k3 with rfl|rfl
 ·refine Wp.outK (z2c8 h) ?_
  repeat(with_reducible first|refine y28 (fun _ _=>?_)|(apply Wp.obind;exact z11 _)|(refine y9 ?_ ?_;rfl))
  have k1':=k1;obtain⟨t,g1,_⟩:=k1';refine Wp.outK (z327 g1) (Wp.outK (z268 h b) (Wp.outK (z3d3 g1 hx) ?_))
  repeat(((with_reducible apply Wp.obind);(with_reducible first|exact zf _ _|exact z8 _ _ _)))
  refine Wp.st1 k1 (by simp) rfl (fun h' q1 q2 q3=>?_)
  repeat((with_reducible refine y38 (by assumption) ?_))
  exact Wp.ret ⟨rfl,⟨_,buf,q1,by omega,.inr rfl,k4.tch q2 (fun hc=>by simpa using hc)⟩,q2⟩
 ·refine Wp.outK (z2c7 h b) ?_
  repeat(first|(with_reducible refine y28 (fun _ _=>?_))|((with_reducible apply Wp.obind);first|(with_reducible first|exact z11 _|exact zf _ _|exact z8 _ _ _)|((with_reducible apply RowH.cell');(with_reducible assumption);rfl))|(with_reducible refine y8 ?_ ?_;rfl))
  refine Wp.outK ((z3db _ _ _ _ _ _ _ _).trans (z43b h b)) ?_
  repeat(with_reducible first|(apply Wp.obind;exact z11 _)|(refine y8 ?_ ?_;rfl)|refine y38 (by assumption) ?_)
  exact Wp.ret ⟨rfl,⟨_,buf,k1,k2,.inr rfl,k4⟩,Tch.refl _ _⟩
theorem string_r(k:BldW h b c l)(hbig:l.length≤1000000000):∃h',world n (d+1) 36 [.ptr b 0] h=some (.ret (z5 l),h')∧Tch [b,c] h h':=by
 obtain⟨a,buf,k1,k2,k3,k4⟩:=k;apply Wp.ex;rw[zef];unfold z3d
 repeat(((with_reducible apply Wp.obind);first|(with_reducible first|exact zf _ _|exact z8 _ _ _)|((with_reducible apply RowH.cell');(with_reducible assumption);rfl)))
 refine Wp.obind k4.one.2.2 ?_
 rcases k4 with⟨rfl,rfl,rfl⟩|⟨rfl,g0,g1,g2,g3⟩
 ·refine Wp.outK (show ze9 h .nsl = some (.val .nilp, h) from rfl) (Wp.chk (by rw [zbd (P := Try.prog) (ty := 46) (by kernel_rfl) (k1.cell' rfl) z213]; rfl) (Wp.outK (show zbe Try.prog h 134 .nilp (.int .i64 0) = some (.val (z5 []), h) from rfl) ?_))
  repeat(((with_reducible apply Wp.obind);(with_reducible exact ze _)))
  exact Wp.ret ⟨rfl,Tch.refl _ _⟩
 ·have d1 : ze9 h (.sl c 0 l.length 1) = some (.val (.ptr c 0), h) := by
   cases l with
   |nil=>exact absurd rfl g0
   |cons x l=>rfl
  refine Wp.outK d1 (Wp.chk (by rw[zbd (P:=Try.prog) (ty:=46) (by kernel_rfl) (k1.cell' rfl) (z4aa _ _ _ _)];rfl) ?_);have g4:=g3.part (o:=0) (n:=(z32 l).length) (by omega);rw[List.drop_zero,List.take_length,z5b] at g4;refine Wp.outK (z20e (by kernel_rfl) g0 hbig g4 g3.type) ?_
  repeat(((with_reducible apply Wp.obind);(with_reducible exact ze _)))
  exact Wp.ret ⟨rfl,Tch.put (.inl (by simp)) _⟩
end
section
variable {n d b c c1:Nat}{h h1 h2:AHeap}{l u:Bytes}{Q:ARes→AHeap→Prop}
theorem z32f(k:BldW h b c l)(hx:zbf z2dd h.ex=true)(hu:zbf TU8 h.ex=false)(s:Bytes)(hbig:l.length+s.length≤1000000000):
  ∃c' h',world n (d+2) 34 [.ptr b 0,z5 s] h=some (.ret (.tup [.int .i64 (z3b s),.nifc]),h')∧BldW h' b c' (l++s)∧(c'=c∨h.next≤c')∧Tch [b,c] h h':=by
 obtain⟨h1,e1,q1,t1⟩:=z418 (n:=n) (d:=d) k hx
 suffices hK:Wp (world n (d+2) 34 [.ptr b 0,z5 s] h) fun r h'=>∃c',r=.ret (.tup [.int .i64 (z3b s),.nifc])∧BldW h' b c' (l++s)∧(c'=c∨h.next≤c')∧Tch [b,c] h h' by
  obtain⟨_,h',e,c',rfl,q⟩:=hK;exact⟨c',h',e,q⟩
 rw[za0];unfold z26;refine Wp.callN e1 ?_;obtain⟨a,buf,k1,k2,k3,k4⟩:=q1
 repeat(((with_reducible apply Wp.obind);first|(with_reducible first|exact zf _ _|exact z8 _ _ _)|((with_reducible apply RowH.cell');(with_reducible assumption);rfl)))
 obtain⟨buf',c',h2,a1,a2,a3,a4,a5⟩:=k4.append (P:=Try.prog) (t:=46) (u:=9) k2 s (by kernel_rfl) (by kernel_rfl) (by kernel_rfl) (by kernel_rfl) (by rw[t1.2.1];exact hu) hbig;refine Wp.outK a1 ?_;have k2':RowH h2 b z2dd [a,buf]:=k1.same a5;obtain⟨o1,o2,_⟩:=a2.one;rw[o2]
 repeat(((with_reducible apply Wp.obind);(with_reducible first|exact zf _ _|exact z8 _ _ _)))
 refine Wp.st1 k2' (by simp) o1 (fun h3 r1 r2 r3=>?_);have n1:=t1.1;have n2:=a4.1;exact Wp.ret ⟨c',rfl,⟨a,buf',r1,by omega,k3,a2.tch r2 (fun hc=>by simpa using hc)⟩,by omega,((t1.mono (by simp)).trans ((a4.mono (by simp)).trans (r2.mono (by simp))))⟩
end
end Go.Proofs.Ytpnccmlajhhpdaa
