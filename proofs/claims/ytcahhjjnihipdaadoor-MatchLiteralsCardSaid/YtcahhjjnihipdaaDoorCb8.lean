/- What matchLiterals_proved stands on, part 8 of 10. -/
import Derived.Test.YtcahhjjnihipdaaDoorCb7
namespace Go.Proofs.YtcahhjjnihipdaaDoor
open Go.RowKit Abs
theorem dynT(call:zc)(a b c:Nat)(h:AHeap):z497 Tryd.prog call (AV.fn 55 [] [.ptr a 0,.ptr b 0,.ptr c 0]) [] h=call 55 [.ptr a 0,.ptr b 0,.ptr c 0] h:=by
 have e:z3bc Tryd.prog h [] (some (AV.fn 55 [] [.ptr a 0,.ptr b 0,.ptr c 0]))=some (.call 55 [.ptr a 0,.ptr b 0,.ptr c 0],h):=by kernel_rfl
 unfold z497;rw[e]
section
variable {n D d b p q i m:Nat}{h h0:AHeap}{u:zf}{Q:ARes→AHeap→Prop}{S:List Nat}{xs rs rs' T T0 T1:List zd8}{w:List Nat}{x:R}{t:Nd}{c:List AV}{v kv fv:AV}{l:List Nd}{kc:List (List AV)}
noncomputable abbrev z1b2(pc rd sp nd pt p:Nat)(u:zf)(kind:Int)(c:List AV):List zd8:=[(pc,TPtr,[.ptr rd 0]),(rd,TRd,rdP u p),(sp,z2f8,[.int .i64 0,.int .i64 0]),(nd,z26,c),(pt,51,[.int .i64 kind,z1f u])]
theorem t1_ok{pc rd sp nd pt:Nat}{kind:Int}{z:List AV}(hz:z.length=6)(hs:∀(h:AHeap),Rd h rd u 0→rd<h.next→zd4 z26 h.ex=false→StepT rd u h (world n D 56 [.ptr rd 0,.int .i64 kind] h) (.ok t))(M:Mem S h0 h (z1b2 pc rd sp nd pt 0 u kind z++xs))(hx:zd4 z26 h0.ex=false):
  ∃c T h' p,world n (D+1) 55 [.ptr pc 0,.ptr pt 0,.ptr nd 0] h=some (.ret (.tup []),h')∧NodeT t c T∧Mem S h0 h' (z1b2 pc rd sp nd pt p u kind c++(xs++T)):=by
 have Mx:Mem S h0 h ((pc,TPtr,[.ptr rd 0])::(rd,TRd,rdP u 0)::(sp,z2f8,[.int .i64 0,.int .i64 0])::(nd,z26,z)::(pt,51,[.int .i64 kind,z1f u])::xs):=M;obtain⟨c,T,h1,p,e1,kt,M1⟩:=hs h Mx.at1.1 Mx.at1.2.1 (by rw[Mx.ex];exact hx);have M2:Mem S h0 h1 ((rd,TRd,rdP u p)::(pc,TPtr,[.ptr rd 0])::(sp,z2f8,[.int .i64 0,.int .i64 0])::(nd,z26,z)::(pt,51,[.int .i64 kind,z1f u])::(xs++T)):=y3e (xs:=[_]) (ys:=[_]) Mx.swap M1
 suffices hK:Wp (world n (D+1) 55 [.ptr pc 0,.ptr pt 0,.ptr nd 0] h) fun r h'=>r=.ret (.tup [])∧Mem S h0 h' (z1b2 pc rd sp nd pt p u kind c++(xs++T)) by
  obtain⟨_,h',e,rfl,M'⟩:=hK;exact⟨c,T,h',p,e,kt,M'⟩
 rw[z198];unfold z9d
 repeat(first|(with_reducible apply Wp.obind;first|exact z4 _ _|exact z9 _ _ _)|((with_reducible apply y21 Mx);rfl)|((with_reducible apply Wp.ld4 Mx);rfl)|(with_reducible first|(apply Wp.obind;exact z12 _)|(apply Wp.callK;assumption)))
 refine y44 M2 kt.len hz kt.one fun h2 M3=>?_;exact Wp.ret ⟨rfl,M3.swap⟩
theorem t1_bad{pc rd sp nd pt:Nat}{kind:Int}{z:List AV}(hs:∀(h:AHeap),Rd h rd u 0→rd<h.next→zd4 z26 h.ex=false→StepT rd u h (world n D 56 [.ptr rd 0,.int .i64 kind] h) (.error q))(M:Mem S h0 h (z1b2 pc rd sp nd pt 0 u kind z++xs))(hx:zd4 z26 h0.ex=false):
  ∃h' p,world n (D+1) 55 [.ptr pc 0,.ptr pt 0,.ptr nd 0] h=some (.panic (z27c 6 q),h')∧Mem S h0 h' (z1b2 pc rd sp nd pt p u kind z++xs):=by
 have Mx:Mem S h0 h ((pc,TPtr,[.ptr rd 0])::(rd,TRd,rdP u 0)::(sp,z2f8,[.int .i64 0,.int .i64 0])::(nd,z26,z)::(pt,51,[.int .i64 kind,z1f u])::xs):=M;obtain⟨h1,p,e1,k1,t1⟩:=hs h Mx.at1.1 Mx.at1.2.1 (by rw[Mx.ex];exact hx)
 suffices hK:Wp (world n (D+1) 55 [.ptr pc 0,.ptr pt 0,.ptr nd 0] h) fun r h'=>r=.panic (z27c 6 q)∧Mem S h0 h' (z1b2 pc rd sp nd pt p u kind z++xs) by
  obtain⟨_,h',e,rfl,M'⟩:=hK;exact⟨h',p,e,M'⟩
 rw[z198];unfold z9d
 repeat(first|(with_reducible apply Wp.obind;first|exact z4 _ _|exact z9 _ _ _)|((with_reducible apply y21 Mx);rfl)|((with_reducible apply Wp.ld4 Mx);rfl))
 exact y16 e1 ⟨rfl,y15 (xs:=[_]) Mx t1 k1⟩
theorem z42d:∀(l:List AV) (x:AV) (N:Nat),y1c N (l++[x])=true→AV.lo N x=true
 |[],x,N,h=>by
  have:(AV.lo N x&&y1c N [])=true:=h
  simpa [y1c] using this
 |y::l,x,N,h=>by
  have:(AV.lo N y&&y1c N (l++[x]))=true:=h;rw[Bool.and_eq_true] at this;exact z42d l x N this.2
theorem NodeT.low{N:Nat}(k:NodeT t c T)(hn:∀y∈T,N≤y.1)(hl:y1c N c=true):T=[]:=by
 cases k with
 |mk hw g ks=>
  rename_i op w kids kc kv T0 T1;have h2:=z42d (.int .i64 (op:Int)::z21 w) kv N hl
  rcases g.2 with⟨rfl,rfl,rfl⟩|⟨_,q,rfl,rfl⟩
  ·cases ks
   rfl
  ·have h3 := hn (q, z26, kc.flatten) (by simp)
   have h4:q<N:=Nat.le_of_ble_eq_true h2;exact absurd h3 (by show ¬N≤q;omega)
end
section
variable {n D d b p q i m:Nat}{h h0:AHeap}{u:zf}{Q:ARes→AHeap→Prop}{S:List Nat}{xs rs rs' T T0 T1:List zd8}{w:List Nat}{x:R}{t:Nd}{c:List AV}{v kv fv:AV}{l:List Nd}{kc:List (List AV)}
theorem z168{pc rd sp nd pt:Nat}{kind:Int}{z:List AV}(hs:∀(h:AHeap),Rd h rd u 0→rd<h.next→zd4 z26 h.ex=false→StepT rd u h (world n D 56 [.ptr rd 0,.int .i64 kind] h) (.error q))(M:Mem S h0 h (z1b2 pc rd sp nd pt 0 u kind z++xs))(hx:zd4 z26 h0.ex=false):
  ∃h',world n (D+2) 54 [AV.fn 55 [] [.ptr pc 0,.ptr pt 0,.ptr nd 0]] h=some (.ret (.agg [.int .i64 6,.int .i64 (q:Int)]),h')∧∃p,Mem S h0 h' (z1b2 pc rd sp nd pt p u kind z++xs):=by
 apply Wp.ex;rw[z1af];unfold zb1;refine y9 M fun h1 M1=>?_
 obtain⟨h2,p,e2,M2⟩:=t1_bad (n:=n) (D:=D) (xs:=xs++[(h.next,z2f8,[.int .i64 0,.int .i64 0])]) hs (M1.perm (by
  rw[←List.append_assoc];exact List.perm_append_comm (l₁:=z1b2 pc rd sp nd pt 0 u kind z++xs) (l₂:=[_]))) hx
 have M3:Mem S h0 h2 ((h.next,z2f8,[.int .i64 0,.int .i64 0])::(z1b2 pc rd sp nd pt p u kind z++xs)):=M2.perm (by
  rw[←List.append_assoc];exact List.perm_append_comm (l₁:=[_]) (l₂:=z1b2 pc rd sp nd pt p u kind z++xs))
 refine z363 ((dynT _ _ _ _ _).trans e2) ?_;rw[z10];obtain⟨h3,e3,M4⟩:=z4b1 (n:=n) (call:=world n (D+1)) rfl M3 6 q;refine Wp.callN e3 ?_;refine y17 M4 rfl ?_;exact Wp.ret ⟨rfl,p,M4.pop⟩
theorem z17f{pc rd sp nd pt:Nat}{kind:Int}{z:List AV}(hz:z.length=6)(hs:∀(h:AHeap),Rd h rd u 0→rd<h.next→zd4 z26 h.ex=false→StepT rd u h (world n D 56 [.ptr rd 0,.int .i64 kind] h) (.ok t))(M:Mem S h0 h (z1b2 pc rd sp nd pt 0 u kind z++xs))(hx:zd4 z26 h0.ex=false):
  ∃c T h' p,world n (D+2) 54 [AV.fn 55 [] [.ptr pc 0,.ptr pt 0,.ptr nd 0]] h=some (.ret (.agg [.int .i64 0,.int .i64 0]),h')∧NodeT t c T∧Mem S h0 h' (z1b2 pc rd sp nd pt p u kind c++(xs++T)):=by
 suffices hK:Wp (world n (D+2) 54 [AV.fn 55 [] [.ptr pc 0,.ptr pt 0,.ptr nd 0]] h) fun r h'=>∃c T p,r=.ret (.agg [.int .i64 0,.int .i64 0])∧NodeT t c T∧Mem S h0 h' (z1b2 pc rd sp nd pt p u kind c++(xs++T)) by
  obtain⟨_,h',e,c,T,p,rfl,k1,k2⟩:=hK;exact⟨c,T,h',p,e,k1,k2⟩
 rw[z1af];unfold zb1;refine y9 M fun h1 M1=>?_;obtain⟨c,T,h2,p,e2,kt,M2⟩:=t1_ok (n:=n) (D:=D) (xs:=[(h.next,z2f8,[.int .i64 0,.int .i64 0])]++xs) hz hs (M1.perm (List.perm_append_comm_assoc (z1b2 pc rd sp nd pt 0 u kind z) [_] xs)) hx
 have M3:Mem S h0 h2 ((h.next,z2f8,[.int .i64 0,.int .i64 0])::(z1b2 pc rd sp nd pt p u kind c++(xs++T))):=M2.perm (by
  rw[List.append_assoc];exact List.perm_append_comm_assoc [_] (z1b2 pc rd sp nd pt p u kind c) (xs++T))
 refine z362 ((dynT _ _ _ _ _).trans e2) ?_;clear M1 M2;have Mx:=M3;clear M3;rw[z10]
 repeat(first|((with_reducible apply y17 Mx);rfl)|((with_reducible apply y11 Mx);rfl;rfl;(rfl);clear Mx;intro _ Mx)|(with_reducible apply Wp.callN;exact z4b2))
 exact Wp.ret ⟨c,T,p,rfl,kt,Mx.pop⟩
theorem z45d(hu:u.length≤1000000){kind:Int}(hk:kind=1∨kind=2∨kind=3):(64<u.length→∀{n D:Nat} {h:AHeap},0≤D→300<n→zd4 z26 h.ex=false→world n (D+1) 36 [.agg [.int .i64 kind,z1f u]] h=some (.ret (.tup [.agg (zae 0 z94 .nsl),.agg [.int .i64 3,.int .i64 64]]),h))∧
  (u.length ≤ 64 → ∃ r, TreeP u kind r ∧ (∀ q, r = .error q → q ≤ u.length) ∧ ∀ {n D : Nat} {h : AHeap}, 300 ≤ D → 400 < n → zd4 z26 h.ex = false → match r with
   | .error q=>world n (D+3) 36 [.agg [.int .i64 kind,z1f u]] h=some (.ret (.tup [.agg (zae 0 z94 .nsl),.agg [.int .i64 6,.int .i64 (q:Int)]]),h)
   | .ok t=>∃c T h',world n (D+3) 36 [.agg [.int .i64 kind,z1f u]] h=some (.ret (.tup [.agg c,.agg [.int .i64 0,.int .i64 0]]),h')∧NodeT t c T∧Mem [] h h' T):=by
 have hk':=hk
 rcases hk' with rfl|rfl|rfl
 ·-- kind 1
  refine⟨?_,?_⟩
  ·intro l n D h hD hn hx
   apply Wp.eq;rw[z6b];refine y4c ?_
   suffices hK:Wp (z19 (world n D) n [.int .i64 1,z1f u] h) fun r h'=>r=.ret (.tup [.agg (zae 0 z94 .nsl),.agg [.int .i64 3,.int .i64 64]])∧Tch [] h h' from hK.mono fun r h' ⟨e,t⟩=>⟨t.above,by rw[e];rfl,e,rfl⟩
   unfold z19;have ll:=z7b u;have Mx:=Mem.nil [] h
   repeat(first|(with_reducible apply Wp.obind;first|exact z4 _ _|exact z5b _|exact z9 _ _ _)|((with_reducible apply y17 Mx);rfl)|((with_reducible apply y11 Mx);rfl;rfl;(rfl);clear Mx;intro _ Mx)|((with_reducible apply y26 Mx);rfl)|((with_reducible apply y2a Mx);rfl;rfl;(rfl);clear Mx;intro _ Mx)|((with_reducible apply y1d Mx);rfl)|((with_reducible apply y9 Mx);clear Mx;intro _ Mx)|((with_reducible apply y19 Mx);(rfl);clear Mx;intro _ Mx)|(with_reducible first|refine y7 (fun _ _=>?_)|refine Wp.lett ?_)|((with_reducible refine y8 ?_ ?_);((with_reducible first|apply decide_eq_true|apply z23c);omega))|((with_reducible refine y6 ?_ ?_);first|(with_reducible rfl)|((with_reducible apply z1c8);omega))|(with_reducible refine yd (by assumption) ?_)|rw[z10])
   exact Wp.ret ⟨rfl,Mx.tch⟩
  ·intro l
   obtain⟨r,r1,r2,r3⟩:=z4a1 hu 1 hk;refine⟨r,r1,r2,?_⟩;intro n D h hD hn hx;have hs:∀(rd:Nat) (h:AHeap),Rd h rd u 0→rd<h.next→zd4 z26 h.ex=false→StepT rd u h (world n D 56 [.ptr rd 0,.int .i64 1] h) r:=fun rd h k1 k2 k3=>r3 (by omega) (by omega) (by omega) k1 k2 k3
   cases r with
   |error q=>
    apply Wp.eq;rw[z6b];refine y4c ?_
    suffices hK:Wp (z19 (world n (D+2)) n [.int .i64 1,z1f u] h) fun r h'=>r=.ret (.tup [.agg (zae 0 z94 .nsl),.agg [.int .i64 6,.int .i64 (q:Int)]])∧Tch [] h h' from hK.mono fun r h' ⟨e,t⟩=>⟨t.above,by rw[e];rfl,e,rfl⟩
    unfold z19;have ll:=z7b u;have Mx:=Mem.nil [] h
    repeat(first|(with_reducible apply Wp.obind;first|exact z4 _ _|exact z5b _|exact z9 _ _ _)|((with_reducible apply y11 Mx);rfl;rfl;(rfl);clear Mx;intro _ Mx)|((with_reducible apply y1d Mx);rfl)|((with_reducible apply y9 Mx);clear Mx;intro _ Mx)|((with_reducible apply y19 Mx);(rfl);clear Mx;intro _ Mx)|(with_reducible first|refine y7 (fun _ _=>?_)|refine Wp.lett ?_)|((with_reducible refine y6 ?_ ?_);first|(with_reducible rfl)|((with_reducible first|apply decide_eq_false|apply z1c8);omega))|(with_reducible refine yd (by assumption) ?_)|rw[z10])
    obtain⟨h2,e2,p2,M2⟩:=z168 (n:=n) (D:=D) (xs:=[]) (hs _) (by rw[List.append_nil];exact Mx) hx;refine Wp.callN e2 ?_;clear Mx;have Mx:=M2
    repeat(first|(with_reducible apply Wp.obind;exact z4 _ _)|((with_reducible apply y1d Mx);rfl)|((with_reducible apply y41 Mx);rfl)|((with_reducible apply y39 Mx);rfl;rfl;(rfl);clear Mx;intro _ Mx)|((with_reducible apply y3b Mx);rfl)|((with_reducible apply y44 Mx);rfl;rfl;(rfl);clear Mx;intro _ Mx)|((with_reducible refine Wp.chk ?_ ?_);focus ((repeat' (first|(with_reducible exact rfl)|(with_reducible apply z268)|((with_reducible apply y47 Mx);kernel_rfl;kernel_rfl)));done))|(with_reducible first|refine Wp.lett ?_|(apply Wp.obind;exact z12 _))|((with_reducible refine y8 ?_ ?_;apply z23c);omega))
    exact Wp.ret ⟨rfl,Mx.tch⟩
   |ok t=>
    obtain⟨c,T,h',e,kt,M'⟩:∃c T h',z19 (world n (D+2)) n [.int .i64 1,z1f u] h=some (.ret (.tup [.agg c,.agg [.int .i64 0,.int .i64 0]]),h')∧NodeT t c T∧Mem [] h h' T:=by
     suffices hK:Wp (z19 (world n (D+2)) n [.int .i64 1,z1f u] h) fun r h'=>∃c T,r=.ret (.tup [.agg c,.agg [.int .i64 0,.int .i64 0]])∧NodeT t c T∧Mem [] h h' T by
      obtain⟨_,h',e,c,T,rfl,k1,k2⟩:=hK;exact⟨c,T,h',e,k1,k2⟩
     unfold z19;have ll:=z7b u;have Mx:=Mem.nil [] h
     repeat(first|(with_reducible apply Wp.obind;first|exact z4 _ _|exact z5b _|exact z9 _ _ _)|((with_reducible apply y11 Mx);rfl;rfl;(rfl);clear Mx;intro _ Mx)|((with_reducible apply y1d Mx);rfl)|((with_reducible apply y9 Mx);clear Mx;intro _ Mx)|((with_reducible apply y19 Mx);(rfl);clear Mx;intro _ Mx)|(with_reducible first|refine y7 (fun _ _=>?_)|refine Wp.lett ?_)|((with_reducible refine y6 ?_ ?_);first|(with_reducible rfl)|((with_reducible first|apply decide_eq_false|apply z1c8);omega))|(with_reducible refine yd (by assumption) ?_)|rw[z10])
     obtain⟨c,T,h2,p2,e2,kt,M2⟩:=z17f (n:=n) (D:=D) (xs:=[]) rfl (hs _) (by rw[List.append_nil];exact Mx) hx;refine Wp.callN e2 ?_;clear Mx;have Mx:=M2;have hl:=kt.len;have ho:=kt.one
     repeat(first|(with_reducible apply Wp.obind;exact z4 _ _)|((with_reducible apply y1d Mx);rfl)|((with_reducible apply y39 Mx);rfl;rfl;(rfl);clear Mx;intro _ Mx)|(with_reducible first|refine Wp.lett ?_|(apply Wp.obind;exact z12 _))|((with_reducible refine y6 ?_ ?_;apply z1c8);omega))
     refine y3b Mx hl ?_
     repeat(((with_reducible apply y41 Mx);rfl))
     refine y44 Mx hl hl ho fun _ Mz=>?_;clear Mx;have Mx:=Mz;clear Mz
     repeat(first|((with_reducible apply y39 Mx);rfl;rfl;(rfl);clear Mx;intro _ Mx)|((with_reducible refine Wp.chk ?_ ?_);focus ((repeat' (first|(with_reducible exact rfl)|(with_reducible apply z268)|((with_reducible apply y47 Mx);kernel_rfl;kernel_rfl)));done)))
     refine y3b Mx hl ?_
     repeat(((with_reducible apply y41 Mx);rfl))
     exact Wp.ret ⟨c,T,rfl,kt,Mx.pop.pop.pop.pop.pop⟩
    have M2:=M'
    suffices hK:Wp (gcR h (z19 (world n (D+2)) n [.int .i64 1,z1f u] h)) fun r h'=>∃T,r=.ret (.tup [.agg c,.agg [.int .i64 0,.int .i64 0]])∧NodeT t c T∧Mem [] h h' T by
     obtain⟨_,h',e,T,rfl,k1,k2⟩:=hK;rw[←z6b] at e;exact⟨c,T,h',e,k1,k2⟩
    refine y5b ⟨_,h',e,⟨T,rfl,kt,M'⟩,fun _ hl=>?_⟩
    have h1:y1c h.next c=true:=by
     have:(y1c h.next c&&(y1c h.next [.int .i64 0,.int .i64 0]&&y1c h.next []))=true:=hl;rw[Bool.and_eq_true] at this;exact this.1
    have hT:T=[]:=kt.low (fun y hy=>(M'.row y hy).2.2.resolve_left (by simp)) h1;subst hT;exact⟨[],rfl,kt,Mem.nil _ _⟩
 ·-- kind 2
  refine⟨?_,?_⟩
  ·intro l n D h hD hn hx
   apply Wp.eq;rw[z6b];refine y4c ?_
   suffices hK:Wp (z19 (world n D) n [.int .i64 2,z1f u] h) fun r h'=>r=.ret (.tup [.agg (zae 0 z94 .nsl),.agg [.int .i64 3,.int .i64 64]])∧Tch [] h h' from hK.mono fun r h' ⟨e,t⟩=>⟨t.above,by rw[e];rfl,e,rfl⟩
   unfold z19;have ll:=z7b u;have Mx:=Mem.nil [] h
   repeat(first|(with_reducible apply Wp.obind;first|exact z4 _ _|exact z5b _|exact z9 _ _ _)|((with_reducible apply y17 Mx);rfl)|((with_reducible apply y11 Mx);rfl;rfl;(rfl);clear Mx;intro _ Mx)|((with_reducible apply y26 Mx);rfl)|((with_reducible apply y2a Mx);rfl;rfl;(rfl);clear Mx;intro _ Mx)|((with_reducible apply y1d Mx);rfl)|((with_reducible apply y9 Mx);clear Mx;intro _ Mx)|((with_reducible apply y19 Mx);(rfl);clear Mx;intro _ Mx)|(with_reducible first|refine y7 (fun _ _=>?_)|refine Wp.lett ?_)|((with_reducible refine y8 ?_ ?_);((with_reducible first|apply decide_eq_true|apply z23c);omega))|((with_reducible refine y6 ?_ ?_);first|(with_reducible rfl)|((with_reducible apply z1c8);omega))|(with_reducible refine yd (by assumption) ?_)|rw[z10])
   exact Wp.ret ⟨rfl,Mx.tch⟩
  ·intro l
   obtain⟨r,r1,r2,r3⟩:=z4a1 hu 2 hk;refine⟨r,r1,r2,?_⟩;intro n D h hD hn hx;have hs:∀(rd:Nat) (h:AHeap),Rd h rd u 0→rd<h.next→zd4 z26 h.ex=false→StepT rd u h (world n D 56 [.ptr rd 0,.int .i64 2] h) r:=fun rd h k1 k2 k3=>r3 (by omega) (by omega) (by omega) k1 k2 k3
   cases r with
   |error q=>
    apply Wp.eq;rw[z6b];refine y4c ?_
    suffices hK:Wp (z19 (world n (D+2)) n [.int .i64 2,z1f u] h) fun r h'=>r=.ret (.tup [.agg (zae 0 z94 .nsl),.agg [.int .i64 6,.int .i64 (q:Int)]])∧Tch [] h h' from hK.mono fun r h' ⟨e,t⟩=>⟨t.above,by rw[e];rfl,e,rfl⟩
    unfold z19;have ll:=z7b u;have Mx:=Mem.nil [] h
    repeat(first|(with_reducible apply Wp.obind;first|exact z4 _ _|exact z5b _|exact z9 _ _ _)|((with_reducible apply y11 Mx);rfl;rfl;(rfl);clear Mx;intro _ Mx)|((with_reducible apply y1d Mx);rfl)|((with_reducible apply y9 Mx);clear Mx;intro _ Mx)|((with_reducible apply y19 Mx);(rfl);clear Mx;intro _ Mx)|(with_reducible first|refine y7 (fun _ _=>?_)|refine Wp.lett ?_)|((with_reducible refine y8 ?_ ?_);((with_reducible first|apply decide_eq_true|apply z23c);omega))|((with_reducible refine y6 ?_ ?_);first|(with_reducible rfl)|((with_reducible first|apply decide_eq_false|apply z1c8);omega))|(with_reducible refine yd (by assumption) ?_)|rw[z10])
    obtain⟨h2,e2,p2,M2⟩:=z168 (n:=n) (D:=D) (xs:=[]) (hs _) (by rw[List.append_nil];exact Mx) hx;refine Wp.callN e2 ?_;clear Mx;have Mx:=M2
    repeat(first|(with_reducible apply Wp.obind;exact z4 _ _)|((with_reducible apply y1d Mx);rfl)|((with_reducible apply y41 Mx);rfl)|((with_reducible apply y39 Mx);rfl;rfl;(rfl);clear Mx;intro _ Mx)|((with_reducible apply y3b Mx);rfl)|((with_reducible apply y44 Mx);rfl;rfl;(rfl);clear Mx;intro _ Mx)|((with_reducible refine Wp.chk ?_ ?_);focus ((repeat' (first|(with_reducible exact rfl)|(with_reducible apply z268)|((with_reducible apply y47 Mx);kernel_rfl;kernel_rfl)));done))|(with_reducible first|refine Wp.lett ?_|(apply Wp.obind;exact z12 _))|((with_reducible refine y8 ?_ ?_;apply z23c);omega))
    exact Wp.ret ⟨rfl,Mx.tch⟩
   |ok t=>
    obtain⟨c,T,h',e,kt,M'⟩:∃c T h',z19 (world n (D+2)) n [.int .i64 2,z1f u] h=some (.ret (.tup [.agg c,.agg [.int .i64 0,.int .i64 0]]),h')∧NodeT t c T∧Mem [] h h' T:=by
     suffices hK:Wp (z19 (world n (D+2)) n [.int .i64 2,z1f u] h) fun r h'=>∃c T,r=.ret (.tup [.agg c,.agg [.int .i64 0,.int .i64 0]])∧NodeT t c T∧Mem [] h h' T by
      obtain⟨_,h',e,c,T,rfl,k1,k2⟩:=hK;exact⟨c,T,h',e,k1,k2⟩
     unfold z19;have ll:=z7b u;have Mx:=Mem.nil [] h
     repeat(first|(with_reducible apply Wp.obind;first|exact z4 _ _|exact z5b _|exact z9 _ _ _)|((with_reducible apply y11 Mx);rfl;rfl;(rfl);clear Mx;intro _ Mx)|((with_reducible apply y1d Mx);rfl)|((with_reducible apply y9 Mx);clear Mx;intro _ Mx)|((with_reducible apply y19 Mx);(rfl);clear Mx;intro _ Mx)|(with_reducible first|refine y7 (fun _ _=>?_)|refine Wp.lett ?_)|((with_reducible refine y8 ?_ ?_);((with_reducible first|apply decide_eq_true|apply z23c);omega))|((with_reducible refine y6 ?_ ?_);first|(with_reducible rfl)|((with_reducible first|apply decide_eq_false|apply z1c8);omega))|(with_reducible refine yd (by assumption) ?_)|rw[z10])
     obtain⟨c,T,h2,p2,e2,kt,M2⟩:=z17f (n:=n) (D:=D) (xs:=[]) rfl (hs _) (by rw[List.append_nil];exact Mx) hx;refine Wp.callN e2 ?_;clear Mx;have Mx:=M2;have hl:=kt.len;have ho:=kt.one
     repeat(first|(with_reducible apply Wp.obind;exact z4 _ _)|((with_reducible apply y1d Mx);rfl)|((with_reducible apply y39 Mx);rfl;rfl;(rfl);clear Mx;intro _ Mx)|(with_reducible first|refine Wp.lett ?_|(apply Wp.obind;exact z12 _))|((with_reducible refine y6 ?_ ?_;apply z1c8);omega))
     refine y3b Mx hl ?_
     repeat(((with_reducible apply y41 Mx);rfl))
     refine y44 Mx hl hl ho fun _ Mz=>?_;clear Mx;have Mx:=Mz;clear Mz
     repeat(first|((with_reducible apply y39 Mx);rfl;rfl;(rfl);clear Mx;intro _ Mx)|((with_reducible refine Wp.chk ?_ ?_);focus ((repeat' (first|(with_reducible exact rfl)|(with_reducible apply z268)|((with_reducible apply y47 Mx);kernel_rfl;kernel_rfl)));done)))
     refine y3b Mx hl ?_
     repeat(((with_reducible apply y41 Mx);rfl))
     exact Wp.ret ⟨c,T,rfl,kt,Mx.pop.pop.pop.pop.pop⟩
    have M2:=M'
    suffices hK:Wp (gcR h (z19 (world n (D+2)) n [.int .i64 2,z1f u] h)) fun r h'=>∃T,r=.ret (.tup [.agg c,.agg [.int .i64 0,.int .i64 0]])∧NodeT t c T∧Mem [] h h' T by
     obtain⟨_,h',e,T,rfl,k1,k2⟩:=hK;rw[←z6b] at e;exact⟨c,T,h',e,k1,k2⟩
    refine y5b ⟨_,h',e,⟨T,rfl,kt,M'⟩,fun _ hl=>?_⟩
    have h1:y1c h.next c=true:=by
     have:(y1c h.next c&&(y1c h.next [.int .i64 0,.int .i64 0]&&y1c h.next []))=true:=hl;rw[Bool.and_eq_true] at this;exact this.1
    have hT:T=[]:=kt.low (fun y hy=>(M'.row y hy).2.2.resolve_left (by simp)) h1;subst hT;exact⟨[],rfl,kt,Mem.nil _ _⟩
 ·-- kind 3
  refine⟨?_,?_⟩
  ·intro l n D h hD hn hx
   apply Wp.eq;rw[z6b];refine y4c ?_
   suffices hK:Wp (z19 (world n D) n [.int .i64 3,z1f u] h) fun r h'=>r=.ret (.tup [.agg (zae 0 z94 .nsl),.agg [.int .i64 3,.int .i64 64]])∧Tch [] h h' from hK.mono fun r h' ⟨e,t⟩=>⟨t.above,by rw[e];rfl,e,rfl⟩
   unfold z19;have ll:=z7b u;have Mx:=Mem.nil [] h
   repeat(first|(with_reducible apply Wp.obind;first|exact z4 _ _|exact z5b _|exact z9 _ _ _)|((with_reducible apply y17 Mx);rfl)|((with_reducible apply y11 Mx);rfl;rfl;(rfl);clear Mx;intro _ Mx)|((with_reducible apply y26 Mx);rfl)|((with_reducible apply y2a Mx);rfl;rfl;(rfl);clear Mx;intro _ Mx)|((with_reducible apply y1d Mx);rfl)|((with_reducible apply y9 Mx);clear Mx;intro _ Mx)|((with_reducible apply y19 Mx);(rfl);clear Mx;intro _ Mx)|(with_reducible first|refine y7 (fun _ _=>?_)|refine Wp.lett ?_)|((with_reducible refine y8 ?_ ?_);((with_reducible first|apply decide_eq_true|apply z23c);omega))|((with_reducible refine y6 ?_ ?_;apply z1c8);omega)|(with_reducible refine yd (by assumption) ?_)|rw[z10])
   exact Wp.ret ⟨rfl,Mx.tch⟩
  ·intro l
   obtain⟨r,r1,r2,r3⟩:=z4a1 hu 3 hk;refine⟨r,r1,r2,?_⟩;intro n D h hD hn hx;have hs:∀(rd:Nat) (h:AHeap),Rd h rd u 0→rd<h.next→zd4 z26 h.ex=false→StepT rd u h (world n D 56 [.ptr rd 0,.int .i64 3] h) r:=fun rd h k1 k2 k3=>r3 (by omega) (by omega) (by omega) k1 k2 k3
   cases r with
   |error q=>
    apply Wp.eq;rw[z6b];refine y4c ?_
    suffices hK:Wp (z19 (world n (D+2)) n [.int .i64 3,z1f u] h) fun r h'=>r=.ret (.tup [.agg (zae 0 z94 .nsl),.agg [.int .i64 6,.int .i64 (q:Int)]])∧Tch [] h h' from hK.mono fun r h' ⟨e,t⟩=>⟨t.above,by rw[e];rfl,e,rfl⟩
    unfold z19;have ll:=z7b u;have Mx:=Mem.nil [] h
    repeat(first|(with_reducible apply Wp.obind;first|exact z4 _ _|exact z5b _|exact z9 _ _ _)|((with_reducible apply y11 Mx);rfl;rfl;(rfl);clear Mx;intro _ Mx)|((with_reducible apply y1d Mx);rfl)|((with_reducible apply y9 Mx);clear Mx;intro _ Mx)|((with_reducible apply y19 Mx);(rfl);clear Mx;intro _ Mx)|(with_reducible first|refine y7 (fun _ _=>?_)|refine Wp.lett ?_)|((with_reducible refine y8 ?_ ?_);((with_reducible first|apply decide_eq_true|apply z23c);omega))|((with_reducible refine y6 ?_ ?_);((with_reducible first|apply decide_eq_false|apply z1c8);omega))|(with_reducible refine yd (by assumption) ?_)|rw[z10])
    obtain⟨h2,e2,p2,M2⟩:=z168 (n:=n) (D:=D) (xs:=[]) (hs _) (by rw[List.append_nil];exact Mx) hx;refine Wp.callN e2 ?_;clear Mx;have Mx:=M2
    repeat(first|(with_reducible apply Wp.obind;exact z4 _ _)|((with_reducible apply y1d Mx);rfl)|((with_reducible apply y41 Mx);rfl)|((with_reducible apply y39 Mx);rfl;rfl;(rfl);clear Mx;intro _ Mx)|((with_reducible apply y3b Mx);rfl)|((with_reducible apply y44 Mx);rfl;rfl;(rfl);clear Mx;intro _ Mx)|((with_reducible refine Wp.chk ?_ ?_);focus ((repeat' (first|(with_reducible exact rfl)|(with_reducible apply z268)|((with_reducible apply y47 Mx);kernel_rfl;kernel_rfl)));done))|(with_reducible first|refine Wp.lett ?_|(apply Wp.obind;exact z12 _))|((with_reducible refine y8 ?_ ?_;apply z23c);omega))
    exact Wp.ret ⟨rfl,Mx.tch⟩
   |ok t=>
    obtain⟨c,T,h',e,kt,M'⟩:∃c T h',z19 (world n (D+2)) n [.int .i64 3,z1f u] h=some (.ret (.tup [.agg c,.agg [.int .i64 0,.int .i64 0]]),h')∧NodeT t c T∧Mem [] h h' T:=by
     suffices hK:Wp (z19 (world n (D+2)) n [.int .i64 3,z1f u] h) fun r h'=>∃c T,r=.ret (.tup [.agg c,.agg [.int .i64 0,.int .i64 0]])∧NodeT t c T∧Mem [] h h' T by
      obtain⟨_,h',e,c,T,rfl,k1,k2⟩:=hK;exact⟨c,T,h',e,k1,k2⟩
     unfold z19;have ll:=z7b u;have Mx:=Mem.nil [] h
     repeat(first|(with_reducible apply Wp.obind;first|exact z4 _ _|exact z5b _|exact z9 _ _ _)|((with_reducible apply y11 Mx);rfl;rfl;(rfl);clear Mx;intro _ Mx)|((with_reducible apply y1d Mx);rfl)|((with_reducible apply y9 Mx);clear Mx;intro _ Mx)|((with_reducible apply y19 Mx);(rfl);clear Mx;intro _ Mx)|(with_reducible first|refine y7 (fun _ _=>?_)|refine Wp.lett ?_)|((with_reducible refine y8 ?_ ?_);((with_reducible first|apply decide_eq_true|apply z23c);omega))|((with_reducible refine y6 ?_ ?_);((with_reducible first|apply decide_eq_false|apply z1c8);omega))|(with_reducible refine yd (by assumption) ?_)|rw[z10])
     obtain⟨c,T,h2,p2,e2,kt,M2⟩:=z17f (n:=n) (D:=D) (xs:=[]) rfl (hs _) (by rw[List.append_nil];exact Mx) hx;refine Wp.callN e2 ?_;clear Mx;have Mx:=M2;have hl:=kt.len;have ho:=kt.one
     repeat(first|(with_reducible apply Wp.obind;exact z4 _ _)|((with_reducible apply y1d Mx);rfl)|((with_reducible apply y39 Mx);rfl;rfl;(rfl);clear Mx;intro _ Mx)|(with_reducible first|refine Wp.lett ?_|(apply Wp.obind;exact z12 _))|((with_reducible refine y6 ?_ ?_;apply z1c8);omega))
     refine y3b Mx hl ?_
     repeat(((with_reducible apply y41 Mx);rfl))
     refine y44 Mx hl hl ho fun _ Mz=>?_;clear Mx;have Mx:=Mz;clear Mz
     repeat(first|((with_reducible apply y39 Mx);rfl;rfl;(rfl);clear Mx;intro _ Mx)|((with_reducible refine Wp.chk ?_ ?_);focus ((repeat' (first|(with_reducible exact rfl)|(with_reducible apply z268)|((with_reducible apply y47 Mx);kernel_rfl;kernel_rfl)));done)))
     refine y3b Mx hl ?_
     repeat(((with_reducible apply y41 Mx);rfl))
     exact Wp.ret ⟨c,T,rfl,kt,Mx.pop.pop.pop.pop.pop⟩
    have M2:=M'
    suffices hK:Wp (gcR h (z19 (world n (D+2)) n [.int .i64 3,z1f u] h)) fun r h'=>∃T,r=.ret (.tup [.agg c,.agg [.int .i64 0,.int .i64 0]])∧NodeT t c T∧Mem [] h h' T by
     obtain⟨_,h',e,T,rfl,k1,k2⟩:=hK;rw[←z6b] at e;exact⟨c,T,h',e,k1,k2⟩
    refine y5b ⟨_,h',e,⟨T,rfl,kt,M'⟩,fun _ hl=>?_⟩
    have h1:y1c h.next c=true:=by
     have:(y1c h.next c&&(y1c h.next [.int .i64 0,.int .i64 0]&&y1c h.next []))=true:=hl;rw[Bool.and_eq_true] at this;exact this.1
    have hT:T=[]:=kt.low (fun y hy=>(M'.row y hy).2.2.resolve_left (by simp)) h1;subst hT;exact⟨[],rfl,kt,Mem.nil _ _⟩
end
theorem zac{a b:Nat}(ha:a<18446744073709551616):a&&&b<18446744073709551616:=Nat.lt_of_le_of_lt Nat.and_le_left ha
theorem z111{x y:Nat}(hx:x<18446744073709551616)(hy:y<18446744073709551616):z3c3 .u64 (x:Int) (y:Int)=((x&&&y:Nat):Int):=by
 have e:(BitVec.ofInt 64 (x:Int)&&&BitVec.ofInt 64 (y:Int)).toNat=x&&&y:=by
  rw[BitVec.toNat_and,BitVec.toNat_ofInt,BitVec.toNat_ofInt]
  congr 1<;>omega
 unfold z3c3;show IntKind.u64.wrap (((BitVec.ofInt 64 (x:Int)&&&BitVec.ofInt 64 (y:Int)).toNat:Nat):Int)=_;rw[e,z86];have:=zac (b:=y) hx;omega
def lackN(x y:Nat):Nat:=x ^^^ (x&&&y)
theorem z28e(x y i:Nat):(lackN x y).testBit i=(x.testBit i&& !y.testBit i):=by
 unfold lackN;rw[Nat.testBit_xor,Nat.testBit_and]
 cases x.testBit i<;>cases y.testBit i<;>rfl
theorem z315{x y:Nat}(hx:x<18446744073709551616):lackN x y<18446744073709551616:=by
 unfold lackN;have:=Nat.xor_lt_two_pow (n:=64) (x:=x) (y:=x&&&y) (by omega) (by have:=zac (b:=y) hx;omega);omega
theorem z40d{x y:Nat}(hx:x<18446744073709551616)(hy:y<18446744073709551616):z369 .u64 (x:Int) (y:Int)=((lackN x y:Nat):Int):=by
 have e:(BitVec.ofInt 64 (x:Int)&&& ~~~ BitVec.ofInt 64 (y:Int)).toNat=lackN x y:=by
  refine Nat.eq_of_testBit_eq fun i=>?_;rw[BitVec.toNat_and,Nat.testBit_and,z28e];have e1:(BitVec.ofInt 64 (x:Int)).toNat=x:=by rw[BitVec.toNat_ofInt];omega
  have e2:(BitVec.ofInt 64 (y:Int)).toNat=y:=by rw[BitVec.toNat_ofInt];omega
  rw[e1]
  by_cases hi:i<64
  ·congr 1
   rw[BitVec.testBit_toNat,BitVec.getLsbD_not, ←BitVec.testBit_toNat,e2]
   simp[hi]
  ·rw[Nat.testBit_lt_two_pow (x:=x) (Nat.lt_of_lt_of_le hx (by have:=Nat.pow_le_pow_right (n:=2) (by decide) (show 64≤i by omega);omega)),Bool.false_and,Bool.false_and]
 unfold z369;show IntKind.u64.wrap (((BitVec.ofInt 64 (x:Int)&&& ~~~ BitVec.ofInt 64 (y:Int)).toNat:Nat):Int)=_;rw[e,z86];have:=z315 (y:=y) hx;omega
theorem z3d6{x k:Nat}(hk:k<64):shrI .u64 (x:Int) (k:Int)=some ((x>>>k:Nat):Int):=by
 unfold shrI;rw[if_neg (by omega)]
 have e:min ((k:Int).toNat) IntKind.u64.bits=k:=by
  show min ((k:Int).toNat) 64=k;omega
 rw[e,Int.fdiv_eq_ediv_of_nonneg _ (Int.le_of_lt (Int.pow_pos (by decide))),Nat.shiftRight_eq_div_pow]
 push_cast
 rfl
theorem z37e{x k:Nat}(hx:x<18446744073709551616):x>>>k<18446744073709551616:=by
 rw[Nat.shiftRight_eq_div_pow];exact Nat.lt_of_le_of_lt (Nat.div_le_self _ _) hx
theorem z44e(x k:Nat):x>>>k&&&1=(x.testBit k).toNat:=by
 rw[Nat.and_one_is_mod,Nat.toNat_testBit,Nat.shiftRight_eq_div_pow]
theorem low_lt{m:Nat}(hm:m≠0):m&&&(m - 1)<m:=Nat.lt_of_le_of_lt Nat.and_le_right (by omega)
abbrev tzT:List Nat:=[0,1,56,2,57,49,28,3,61,58,42,50,38,29,17,4,62,47,59,36,45,43,51,22,53,39,33,30,24,18,12,5,63,55,48,27,60,41,37,16,46,35,44,21,52,32,23,11,54,26,40,15,34,20,31,10,25,14,19,9,13,8,7,6]
def tzC:List AV:=tzT.map fun (z:Nat)=>AV.int .u8 (z:Int)
def HasTz(h:AHeap):Prop:=h.get 0=some (.glob (T.put .e 0 tzC))∧0<h.next
theorem HasTz.tch{S:List Nat}{h h':AHeap}(k:HasTz h)(t:Tch S h h')(hS:0 ∉ S):HasTz h':=⟨by rw[t.2.2 _ k.2 hS];exact k.1,Nat.lt_of_lt_of_le k.2 t.1⟩
theorem tz_cell{h:AHeap}(k:HasTz h){t:Nat}{v:AV}(hv:tzC[t]? =some v):z7 h (.gptr 0 t)=some v:=by
 simp only[z7,k.1,z3e0,hv]
def tzI(m:Nat):Nat:=(m&&&(18446744073709551616 - m)%18446744073709551616)*285870213051353865%18446744073709551616/288230376151711744
theorem z49f(m:Nat):tzI m<64:=by
 unfold tzI;have:=Nat.mod_lt ((m&&&(18446744073709551616 - m)%18446744073709551616)*285870213051353865) (show 0<18446744073709551616 by decide);omega
def tzN(m:Nat):Nat:=tzT.getD (tzI m) 0
theorem tz_all:(List.range 64).all (fun t=>Nat.blt (tzT.getD t 0) 64)=true:=by kernel_rfl
theorem tz_one{t:Nat}(ht:t<64):tzC[t]? =some (.int .u8 ((tzT.getD t 0:Nat):Int))∧tzT.getD t 0<64:=by
 have:=List.all_eq_true.1 tz_all t (List.mem_range.2 ht);have hl:t<tzT.length:=ht;refine⟨?_,by simpa using this⟩;unfold tzC;rw[List.getElem?_map,List.getD_eq_getElem?_getD,List.getElem?_eq_getElem hl];rfl
theorem z49e(m:Nat):tzN m<64:=(tz_one (z49f m)).2
section
variable {n d:Nat}{h:AHeap}
theorem idxA_g{n b o i:Nat}(h:i<n):z316 n 1 (.gptr b o) (i:Int)=some (.gptr b (o+i)):=by
 have e:Nat.blt i n=true:=by simpa using h
 show (match Nat.blt i n with|true=>some (AV.gptr b (o+i*1))|false=>none)=_;rw[e,Nat.mul_one]
theorem tz_w(hT:HasTz h){m:Nat}(hm:m<18446744073709551616)(h0:m≠0):world n (d+1) 79 [.int .u64 (m:Int)] h=some (.ret (.int .i64 (tzN m:Nat)),h):=by
 have:z2f (world n d) n (m:Int) h=some (.ret (.int .i64 (tzN m:Nat)),h):=by
  apply Wp.eq;unfold z2f
  have e1:IntKind.u64.wrap (0 - (m:Int))=(((18446744073709551616 - m)%18446744073709551616:Nat):Int):=by
   rw[z86];omega
  have e2:z3c3 .u64 (m:Int) (((18446744073709551616 - m)%18446744073709551616:Nat):Int)=((m&&&(18446744073709551616 - m)%18446744073709551616:Nat):Int):=z111 hm (Nat.mod_lt _ (by decide))
  have e3:IntKind.u64.wrap (((m&&&(18446744073709551616 - m)%18446744073709551616:Nat):Int)*285870213051353865)=(((m&&&(18446744073709551616 - m)%18446744073709551616)*285870213051353865%18446744073709551616:Nat):Int):=by
   rw[z86];rfl
  have e4:shrI .u64 (((m&&&(18446744073709551616 - m)%18446744073709551616)*285870213051353865%18446744073709551616:Nat):Int) 58=some ((tzI m:Nat):Int):=by
   rw[show (58:Int)=((58:Nat):Int) from rfl,z3d6 (by decide),Nat.shiftRight_eq_div_pow];rfl
  have e5:=idxA_g (b:=0) (o:=0) (z49f m);obtain⟨e6,e7⟩:=tz_one (z49f m);have e8:=tz_cell hT e6
  have e9:IntKind.i64.wrap ((tzN m:Nat):Int)=((tzN m:Nat):Int):=by
   have:=z49e m;rw[z333 (by omega) (by omega)]
  ((with_reducible refine Wp.lett ?_))
  refine y6 (z90 (by omega)) ?_;refine Wp.lett ?_;rw[e1];refine Wp.lett ?_;rw[e2];refine Wp.lett ?_;rw[e3];refine Wp.obind e4 ?_;refine Wp.obind e5 ?_;rw[Nat.zero_add];refine Wp.obind e8 ?_;refine Wp.obind (z4 _ _) ?_;refine Wp.lett ?_;show Wp (some (ARes.ret (AV.int .i64 (IntKind.i64.wrap ((tzN m:Nat):Int))),h)) _;rw[e9];exact Wp.ret ⟨rfl,rfl⟩
 rw[z148,this,z437 (Above.refl _) rfl]
end
abbrev TNet:Nat:=86
abbrev TBl:Nat:=88
abbrev TPc:Nat:=90
structure Nt where
 empty:Bool
 first:Nat
 last:Nat
 fo:List Nat
 ta:List Nat
structure NtOk (N:Nt):Prop where
 fl:N.fo.length=64
 tl:N.ta.length=256
 f:N.first<18446744073709551616
 l:N.last<18446744073709551616
 fs:∀x∈N.fo,x<18446744073709551616
 ts:∀x∈N.ta,x<18446744073709551616
noncomputable def netC(N:Nt):List AV:=.bool N.empty:: .int .u64 (N.first:Int):: .int .u64 (N.last:Int)::(z21 N.fo++z21 N.ta)
theorem zc7{l:List Nat}(h:∀x∈l,x<18446744073709551616)(i:Nat):l.getD i 0<18446744073709551616:=by
 rw[List.getD_eq_getElem?_getD];cases hx:l[i]? with
 |none=>decide
 |some x=>exact h x (List.mem_of_getElem? hx)
section
variable {N:Nt}
theorem z259(k:NtOk N):(netC N).length=323:=by
 simp only[netC,List.length_cons,List.length_append,z5d,k.fl,k.tl]
theorem net_fo(k:NtOk N){i:Nat}(hi:i<64):(netC N)[3+i]? =some (.int .u64 (N.fo.getD i 0:Int)):=
 z230 (pre:=[.bool N.empty,.int .u64 (N.first:Int),.int .u64 (N.last:Int)]) (by rw[k.fl];exact hi)
theorem net_ta(k:NtOk N){i:Nat}(hi:i<256):(netC N)[67+i]? =some (.int .u64 (N.ta.getD i 0:Int)):=by
 have:=z230 (pre:=.bool N.empty:: .int .u64 (N.first:Int):: .int .u64 (N.last:Int)::z21 N.fo) (post:=[]) (w:=N.ta) (i:=i) (by rw[k.tl];exact hi);rw[List.append_nil,show (AV.bool N.empty:: .int .u64 (N.first:Int):: .int .u64 (N.last:Int)::z21 N.fo).length=67 by simp only[List.length_cons,z5d,k.fl]] at this;exact this
theorem z46b(k:NtOk N){i x:Nat}(hi:i<64):(netC N).set (3+i) (.int .u64 (x:Int))=netC {N with fo:=N.fo.set i x}:=
 z29f (pre:=[.bool N.empty,.int .u64 (N.first:Int),.int .u64 (N.last:Int)]) (by rw[k.fl];exact hi)
theorem z30f(k:NtOk N){i x:Nat}(hi:i<256):(netC N).set (67+i) (.int .u64 (x:Int))=netC {N with ta:=N.ta.set i x}:=by
 have:=z29f (pre:=.bool N.empty:: .int .u64 (N.first:Int):: .int .u64 (N.last:Int)::z21 N.fo) (post:=[]) (w:=N.ta) (i:=i) (x:=x) (by rw[k.tl];exact hi);rw[List.append_nil,List.append_nil,show (AV.bool N.empty:: .int .u64 (N.first:Int):: .int .u64 (N.last:Int)::z21 N.fo).length=67 by simp only[List.length_cons,z5d,k.fl]] at this;exact this
end
def z34e(g:Nat→Nat→Nat):Nat→List Nat→List Nat
 |_,[]=>[]
 |i,x::l=>g i x::z34e g (i+1) l
theorem z228(g:Nat→Nat→Nat):∀(l:List Nat) (i j:Nat),(z34e g i l)[j]? =(l[j]?).map (g (i+j))
 |[],_,_=>rfl
 |_::_,_,0=>rfl
 |_::l,i,j+1=>by
  show (z34e g (i+1) l)[j]? =_;rw[z228 g l (i+1) j,show i+1+j=i+(j+1) by omega];rfl
theorem z1d2(g:Nat→Nat→Nat):∀(l:List Nat) (i:Nat),(z34e g i l).length=l.length
 |[],_=>rfl
 |_::l,i=>by rw[z34e,List.length_cons,List.length_cons,z1d2 g l (i+1)]
theorem z1d1{g:Nat→Nat→Nat}{l:List Nat}{i:Nat}(hl:∀x∈l,x<18446744073709551616)(hg:∀i x,x<18446744073709551616→g i x<18446744073709551616):∀x∈z34e g i l,x<18446744073709551616:=by
 intro x hx;obtain⟨j,hj⟩:=List.mem_iff_getElem?.1 hx;rw[z228] at hj;obtain⟨y,hy,rfl⟩:=Option.map_eq_some_iff.1 hj;exact hg _ _ (hl y (List.mem_of_getElem? hy))
def upd(g:Nat→Nat→Nat)(k:Nat)(l:List Nat):List Nat:=z34e (fun c x=>if c<k then g c x else x) 0 l
section
variable {g:Nat→Nat→Nat}{k:Nat}{l:List Nat}
theorem z1f0(j:Nat):(upd g k l)[j]? =(l[j]?).map fun x=>if j<k then g j x else x:=by
 unfold upd;rw[z228,Nat.zero_add]
theorem z337:(upd g k l).length=l.length:=z1d2 _ _ _
theorem z336:upd g 0 l=l:=by
 refine List.ext_getElem? fun j=>?_;rw[z1f0]
 simp
theorem z339(h:l.length=k):upd g k l=z34e g 0 l:=by
 refine List.ext_getElem? fun j=>?_;rw[z1f0,z228,Nat.zero_add];cases hx:l[j]? with
 |none=>rfl
 |some x=>
  have:j<l.length:=(List.getElem?_eq_some_iff.1 hx).1;rw[Option.map_some,Option.map_some,if_pos (by omega)]
theorem z338:(upd g k l).getD k 0=l.getD k 0:=by
 rw[List.getD_eq_getElem?_getD,List.getD_eq_getElem?_getD,z1f0]
 simp
theorem z3ce(h:k<l.length):(upd g k l).set k (g k (l.getD k 0))=upd g (k+1) l:=by
 refine List.ext_getElem? fun j=>?_;rw[List.getElem?_set,z1f0,z1f0,z337]
 by_cases hj:k=j
 ·subst hj
  rw[if_pos rfl,if_pos h,List.getElem?_eq_getElem h,Option.map_some,if_pos (by omega),List.getD_eq_getElem?_getD,List.getElem?_eq_getElem h];rfl
 ·rw [if_neg hj]
  congr 1
  funext x
  by_cases h2:j<k
  ·rw[if_pos h2,if_pos (by omega)]
  ·rw[if_neg h2,if_neg (by omega)]
theorem z413(hg:g k (l.getD k 0)=l.getD k 0):upd g k l=upd g (k+1) l:=by
 refine List.ext_getElem? fun j=>?_;rw[z1f0,z1f0];cases hx:l[j]? with
 |none=>rfl
 |some x=>
  rw[Option.map_some,Option.map_some]
  by_cases hj:j=k
  ·subst hj
   rw[List.getD_eq_getElem?_getD,hx] at hg;rw[if_neg (by omega),if_pos (by omega)];exact congrArg some hg.symm
  ·by_cases h2 : j < k
   ·rw[if_pos h2,if_pos (by omega)]
   ·rw[if_neg h2,if_neg (by omega)]
theorem z299(hl:∀x∈l,x<18446744073709551616)(hg:∀i x,x<18446744073709551616→g i x<18446744073709551616):∀x∈upd g k l,x<18446744073709551616:=z1d1 hl fun i x hx=>by
 show (if i<k then g i x else x)<18446744073709551616
 split
 ·exact hg i x hx
 ·exact hx
end
def z496(those these i x:Nat):Nat:=if those.testBit i=true then x|||these else x
theorem z31b{those these:Nat}(h:these<18446744073709551616)(i x:Nat)(hx:x<18446744073709551616):z496 those these i x<18446744073709551616:=by
 unfold z496
 split
 ·exact zb4 hx h
 ·exact hx
def Nt.follow(N:Nt)(those these:Nat):Nt:={N with fo:=z34e (z496 those these) 0 N.fo}
theorem NtOk.follow{N:Nt}(k:NtOk N){those these:Nat}(h:these<18446744073709551616):NtOk (N.follow those these):=
 ⟨by show (z34e _ _ _).length=_;rw[z1d2];exact k.fl,k.tl,k.f,k.l,z1d1 k.fs fun i x hx=>z31b h i x hx,k.ts⟩
section
variable {N:Nt}{n d b nb these those:Nat}{v:AV}{h:AHeap}{Q:ARes→AHeap→Prop}
theorem z204{k3:AHeap→R}(hN:NtOk N)(hs:these<18446744073709551616)(ht:those<18446744073709551616)(hne:b≠nb):∀(m f i:Nat) (H:AHeap),m<f→i+m=64→RowH H b TBl [.ptr nb 0,v]→b<H.next→RowH H nb TNet (netC {N with fo:=upd (z496 those these) i N.fo})→
  (∀H',RowH H' nb TNet (netC (N.follow those these))→Tch [nb] H H'→Wp (k3 H') Q)→Wp (z6e (.ptr b 0) (those:Int) (these:Int) k3 f (i:Int) H) Q
 |_,0,_,_,hf,_,_,_,_,_=>by omega
 |0,f+1,i,H,hf,hm,kb,hb,kn,hk=>by
  rw[zb5];unfold z61
  repeat(first|(with_reducible refine Wp.lett ?_)|((with_reducible refine y6 ?_ ?_;apply decide_eq_false);omega))
  refine hk H ?_ (Tch.refl _ _);have:i=64:=by omega
  subst this;rw[z339 hN.fl] at kn;exact kn
 |m+1,f+1,i,H,hf,hm,kb,hb,kn,hk=>by
  rw[zb5];unfold z61;have hi:i<64:=by omega
  have hN2:NtOk {N with fo:=upd (z496 those these) i N.fo}:=⟨by show (upd _ _ _).length=_;rw[z337];exact hN.fl,hN.tl,hN.f,hN.l,z299 hN.fs fun i x hx=>z31b hs i x hx,hN.ts⟩;have e1:=z3d6 (x:=those) hi
  have e2:z3c3 .u64 ((those>>>i:Nat):Int) 1=(((those.testBit i).toNat:Nat):Int):=by
   rw[show (1:Int)=((1:Nat):Int) from rfl,z111 (z37e ht) (by decide),z44e]
  have el:(i:Int)+1=((i+1:Nat):Int):=by omega
  repeat(first|(with_reducible first|refine yf (fun _ _=>?_)|refine Wp.lett ?_|(apply Wp.obind;exact e1))|((with_reducible refine y8 ?_ ?_);((with_reducible first|apply decide_eq_true|apply z83);omega)))
  rw[e2];cases hbit:those.testBit i with
  |false=>
   refine y6 rfl ?_
   repeat(first|((with_reducible refine ye ?_ ?_ ?_);omega;omega)|(with_reducible refine y24 (by assumption) ?_))
   rw[el];refine z204 hN hs ht hne m f (i+1) H (by omega) (by omega) kb hb ?_ hk;rw[←z413 (g:=z496 those these) (k:=i) (l:=N.fo) (by unfold z496;rw[hbit,if_neg Bool.false_ne_true])];exact kn
  |true=>
   have c1:z7 H (.ptr b (0+0))=some (.ptr nb 0):=y5 kb rfl;have e3:=z163 (b:=nb) (o:=0+3) hi;have c2:z7 H (.ptr nb (0+3+i))=some (.int .u64 (N.fo.getD i 0:Int)):=y5 kn (by rw[Nat.zero_add,net_fo hN2 hi];show some (AV.int .u64 (((upd _ _ _).getD i 0:Nat):Int))=_;rw[z338]);refine y8 rfl ?_
   repeat(with_reducible first|refine Wp.lett ?_|(apply Wp.obind;first|exact c1|exact e3|exact c2|exact z4 _ _|exact z11 _ _|exact z9 _ _ _))
   rw[z14a (zc7 hN.fs i) hs];refine Wp.st1 kn (by rw[z259 hN2];omega) rfl fun h' k' t' _=>?_;rw[Nat.zero_add,z46b hN2 hi] at k'
   repeat(first|((with_reducible refine ye ?_ ?_ ?_);omega;omega)|(with_reducible refine y24 (by assumption) ?_))
   rw[el];refine z204 hN hs ht hne m f (i+1) h' (by omega) (by omega) (kb.tch t' hb (by simpa using hne)) (Nat.lt_of_lt_of_le hb t'.1) ?_ fun H' k2 t2=>hk H' k2 (t'.trans t2);have hu:=z3ce (g:=z496 those these) (k:=i) (l:=N.fo) (by rw[hN.fl];exact hi);have hg:z496 those these i (N.fo.getD i 0)=N.fo.getD i 0|||these:=by unfold z496;rw[hbit,if_pos rfl]
   rw[hg] at hu;rw[←hu];exact k'
theorem z356(hN:NtOk N)(hs:these<18446744073709551616)(ht:those<18446744073709551616)(hn:64<n)(hne:b≠nb)(kb:RowH h b TBl [.ptr nb 0,v])(hb:b<h.next)(kn:RowH h nb TNet (netC N)):∃h',world n (d+1) 59 [.ptr b 0,.int .u64 (those:Int),.int .u64 (these:Int)] h=some (.ret (.tup []),h')∧RowH h' nb TNet (netC (N.follow those these))∧Tch [nb] h h':=by
 apply Wp.ex;rw[z1df];unfold z77
 ((with_reducible refine yf (fun _ _=>?_)))
 rename_i k3 ek3;refine z204 hN hs ht hne 64 n 0 h (by omega) rfl kb hb (by rw[z336];exact kn) fun H' k2 t2=>?_
 repeat((with_reducible refine y24 (by assumption) ?_))
 exact Wp.ret ⟨rfl,k2,t2⟩
end
def inW(w:List Nat)(i:Nat):Bool:=(w.getD (i/64) 0).testBit (i%64)
def bitN(u:Nat):Nat:=if u<64 then 2 ^ u else 0
theorem z1da(u:Nat):bitN u<18446744073709551616:=by
 unfold bitN
 split
 ·exact z174 (by assumption)
 ·decide
theorem shlI_bit{u:Nat}:shlI .u64 1 (u:Int)=some ((bitN u:Nat):Int):=by
 unfold bitN
 by_cases h:u<64
 ·rw [if_pos h]
  exact z33b h
 ·rw [if_neg h]
  unfold shlI;rw[if_neg (by omega)]
  have e:min ((u:Int).toNat) IntKind.u64.bits=64:=by
   show min ((u:Int).toNat) 64=64;omega
  rw[e,z86];rfl
def plG(w:List Nat)(bit i x:Nat):Nat:=if inW w i=true then x|||bit else x
theorem z387{w:List Nat}{bit:Nat}(h:bit<18446744073709551616)(i x:Nat)(hx:x<18446744073709551616):plG w bit i x<18446744073709551616:=by
 unfold plG
 split
 ·exact zb4 hx h
 ·exact hx
def Nt.place(N:Nt)(w:List Nat)(bit:Nat):Nt:={N with ta:=z34e (plG w bit) 0 N.ta}
theorem NtOk.place{N:Nt}(k:NtOk N){w:List Nat}{bit:Nat}(h:bit<18446744073709551616):NtOk (N.place w bit):=
 ⟨k.fl,by show (z34e _ _ _).length=_;rw[z1d2];exact k.tl,k.f,k.l,k.fs,z1d1 k.ts fun i x hx=>z387 h i x hx⟩
structure Pc where
 empty:Bool
 first:Nat
 last:Nat
structure PcOk (p:Pc):Prop where
 f:p.first<18446744073709551616
 l:p.last<18446744073709551616
def pcC(p:Pc):List AV:=[.bool p.empty,.int .u64 (p.first:Int),.int .u64 (p.last:Int)]
def behN(p q:Pc):Pc:=⟨p.empty&&q.empty,if p.empty=true then p.first|||q.first else p.first,if q.empty=true then q.last|||p.last else q.last⟩
theorem z40a{p q:Pc}(a:PcOk p)(b:PcOk q):PcOk (behN p q):=by
 constructor
 ·show (if p.empty = true then _ else _) < _
  split
  ·exact zb4 a.f b.f
  ·exact a.f
 ·show (if q.empty = true then _ else _) < _
  split
  ·exact zb4 b.l a.l
  ·exact b.l
theorem y38{h:AHeap}{b c:Nat}{e f:TypeId}{l m:List AV}(k1:RowH h b e l)(h1:b<h.next)(k2:RowH h c f m)(h2:c<h.next)(hne:b≠c):Mem [b,c] h h [(b,e,l),(c,f,m)]:=
 ⟨by simpa using ⟨⟨k1,h1⟩,k2,h2⟩,by simpa using hne,Tch.refl _ _⟩
section
variable {N:Nt}{n d b nb used:Nat}{v:AV}{h:AHeap}{Q:ARes→AHeap→Prop}{w:List Nat}{p q:Pc}
theorem z250{k25:AHeap→R}{pb bit:Nat}{e:TypeId}(hN:NtOk N)(hw:WordsOk w)(hs:bit<18446744073709551616)(hne:b≠nb)(hnp:pb≠nb):∀(m f i:Nat) (H:AHeap),m<f→i+m=256→RowH H b TBl [.ptr nb 0,v]→b<H.next→RowH H pb e (z21 w)→pb<H.next→RowH H nb TNet (netC {N with ta:=upd (plG w bit) i N.ta})→
  (∀H',RowH H' nb TNet (netC (N.place w bit))→Tch [nb] H H'→Wp (k25 H') Q)→Wp (z7d (.ptr b 0) (.ptr pb 0) (bit:Int) k25 f (i:Int) H) Q
 |_,0,_,_,hf,_,_,_,_,_,_,_=>by omega
 |0,f+1,i,H,hf,hm,kb,hb,kp,hp,kn,hk=>by
  rw[zc9];unfold z6d
  repeat(first|(with_reducible refine Wp.lett ?_)|((with_reducible refine y6 ?_ ?_;apply decide_eq_false);omega))
  refine hk H ?_ (Tch.refl _ _);have:i=256:=by omega
  subst this;rw[z339 hN.tl] at kn;exact kn
 |m+1,f+1,i,H,hf,hm,kb,hb,kp,hp,kn,hk=>by
  rw[zc9];unfold z6d;have hi:i<256:=by omega
  have hi4:i/64<4:=by omega
  have hN2:NtOk {N with ta:=upd (plG w bit) i N.ta}:=⟨hN.fl,by show (upd _ _ _).length=_;rw[z337];exact hN.tl,hN.f,hN.l,hN.fs,z299 hN.ts fun i x hx=>z387 hs i x hx⟩;have q1:=quoI_64 (c:=i) (by omega);have q2:=z163 (b:=pb) (o:=0) hi4;have q3:=z4b0 (c:=i);have g1:=z230 (pre:=[]) (post:=[]) (w:=w) (i:=i/64) (by rw[hw.len];exact hi4);rw[List.append_nil,List.nil_append,List.length_nil] at g1;have q4:z7 H (.ptr pb (0+i/64))=some (.int .u64 ((w.getD (i/64) 0:Nat):Int)):=y5 kp g1;have e1:=z3d6 (x:=w.getD (i/64) 0) (Nat.mod_lt i (show 0<64 by decide))
  have e2:z3c3 .u64 ((w.getD (i/64) 0>>>(i%64):Nat):Int) 1=(((inW w i).toNat:Nat):Int):=by
   rw[show (1:Int)=((1:Nat):Int) from rfl,z111 (z37e (hw.get _)) (by decide),z44e];rfl
  have el:(i:Int)+1=((i+1:Nat):Int):=by omega
  repeat(first|(with_reducible first|refine yf (fun _ _=>?_)|refine Wp.lett ?_|(apply Wp.obind;first|exact q1|exact q2|exact q3|exact q4|exact e1|exact z4 _ _))|((with_reducible refine y8 ?_ ?_);((with_reducible first|apply decide_eq_true|apply z83);omega)))
  rw[e2];cases hbit:inW w i with
  |false=>
   refine y6 rfl ?_
   repeat(first|((with_reducible refine ye ?_ ?_ ?_);omega;omega)|(with_reducible refine y24 (by assumption) ?_))
   rw[el];refine z250 hN hw hs hne hnp m f (i+1) H (by omega) (by omega) kb hb kp hp ?_ hk;rw[←z413 (g:=plG w bit) (k:=i) (l:=N.ta) (by unfold plG;rw[hbit,if_neg Bool.false_ne_true])];exact kn
  |true=>
   have c1:z7 H (.ptr b (0+0))=some (.ptr nb 0):=y5 kb rfl;have e3:=z163 (b:=nb) (o:=0+67) hi;have c2:z7 H (.ptr nb (0+67+i))=some (.int .u64 (N.ta.getD i 0:Int)):=y5 kn (by rw[Nat.zero_add,net_ta hN2 hi];show some (AV.int .u64 (((upd _ _ _).getD i 0:Nat):Int))=_;rw[z338]);refine y8 rfl ?_
   repeat(with_reducible first|refine Wp.lett ?_|(apply Wp.obind;first|exact c1|exact e3|exact c2|exact z4 _ _|exact z11 _ _|exact z9 _ _ _))
   rw[z14a (zc7 hN.ts i) hs];refine Wp.st1 kn (by rw[z259 hN2];omega) rfl fun h' k' t' _=>?_;rw[Nat.zero_add,z30f hN2 hi] at k'
   repeat(first|((with_reducible refine ye ?_ ?_ ?_);omega;omega)|(with_reducible refine y24 (by assumption) ?_))
   rw[el];refine z250 hN hw hs hne hnp m f (i+1) h' (by omega) (by omega) (kb.tch t' hb (by simpa using hne)) (Nat.lt_of_lt_of_le hb t'.1) (kp.tch t' hp (by simpa using hnp)) (Nat.lt_of_lt_of_le hp t'.1) ?_ fun H' k2 t2=>hk H' k2 (t'.trans t2);have hu:=z3ce (g:=plG w bit) (k:=i) (l:=N.ta) (by rw[hN.tl];exact hi);have hg:plG w bit i (N.ta.getD i 0)=N.ta.getD i 0|||bit:=by unfold plG;rw[hbit,if_pos rfl]
   rw[hg] at hu;rw[←hu];exact k'
theorem place_r(hN:NtOk N)(hw:WordsOk w)(hn:256<n)(hu:used<1000000)(hne:b≠nb)(kb:RowH h b TBl [.ptr nb 0,.int .i64 (used:Int)])(hb:b<h.next)(kn:RowH h nb TNet (netC N))(hnb:nb<h.next):
  ∃h',world n (d+1) 57 [.ptr b 0,.agg (z21 w)] h=some (.ret (.agg (pcC ⟨false,bitN used,bitN used⟩)),h')∧RowH h' b TBl [.ptr nb 0,.int .i64 ((used+1:Nat):Int)]∧RowH h' nb TNet (netC (N.place w (bitN used)))∧Tch [b,nb] h h':=by
 apply Wp.ex;rw[z1ee];unfold z87;have Mx:=y38 kb hb kn hnb hne;have o1:=z1cb w;have el:(used:Int)+1=((used+1:Nat):Int):=by omega
 refine y19 Mx o1 fun h1 M1=>?_;clear Mx;have Mx:=M1;clear M1;have sh:=shlI_bit (u:=used)
 repeat(first|(with_reducible apply Wp.obind;first|exact z4 _ _|exact z11 _ _|exact z9 _ _ _)|((with_reducible apply y1d Mx);rfl)|((with_reducible apply Wp.ms2 Mx);exact Nat.le_of_ble_eq_true rfl;rfl;clear Mx;intro _ Mx)|((with_reducible apply y9 Mx);clear Mx;intro _ Mx)|(with_reducible refine yf (fun _ _=>?_))|((with_reducible refine ye ?_ ?_ ?_);omega;omega)|(with_reducible apply Wp.obind;exact sh))
 rename_i k25 ek25;obtain⟨kp,hp,_⟩:=Mx.at1;obtain⟨kb2,hb2,_⟩:=Mx.at2;obtain⟨kn2,hn2,_⟩:=Mx.at3;have ap:=Mx.apart;simp only[List.map_cons,List.map_nil,List.nodup_cons,List.mem_cons,List.not_mem_nil,or_false,not_or] at ap;refine z250 hN hw (z1da used) hne ap.2.1.2 256 n 0 _ (by omega) rfl kb2 hb2 kp hp (by rw[z336];exact kn2) fun H' k2 t2=>?_;have M2:=y15 (xs:=[_,_,_]) Mx t2 k2;clear Mx;have Mx:=M2;clear M2;rw[ek25];simp only[List.cons_append,List.nil_append] at Mx
 repeat(first|((with_reducible apply y17 Mx);rfl)|((with_reducible apply y11 Mx);rfl;rfl;(rfl);clear Mx;intro _ Mx)|rw[z10])
 refine Wp.ret ⟨rfl,?_,Mx.at3.1,Mx.tch⟩;have:=Mx.at2.1;rw[el] at this;exact this
theorem pcC_one(p:Pc):(pcC p).all AV.one=true:=rfl
theorem behind_r(hN:NtOk N)(hp:PcOk p)(hq:PcOk q)(hn:64<n)(hne:b≠nb)(kb:RowH h b TBl [.ptr nb 0,v])(hb:b<h.next)(kn:RowH h nb TNet (netC N))(hnb:nb<h.next):
  ∃h',world n (d+2) 58 [.ptr b 0,.agg (pcC p),.agg (pcC q)] h=some (.ret (.agg (pcC (behN p q))),h')∧RowH h' b TBl [.ptr nb 0,v]∧RowH h' nb TNet (netC (N.follow p.last q.first))∧Tch [b,nb] h h':=by
 apply Wp.ex;rw[z1e0];unfold z78;have Mx:=y38 kb hb kn hnb hne;refine y19 Mx (pcC_one p) fun h1 M1=>?_;refine y19 M1 (pcC_one q) fun h2 M2=>?_;clear Mx M1;have Mx:=M2;clear M2;have e1:=fun (H:AHeap) (M:Mem [b,nb] h H ((h2.next,TPc,[.bool false,.int .u64 0,.int .u64 0])::(h1.next,TPc,pcC q)::(h.next,TPc,pcC p)::(b,TBl,[.ptr nb 0,v])::[(nb,TNet,netC N)]))=>z356 (n:=n) (d:=d) (h:=H) hN hq.f hp.l hn hne M.at3.1 M.at3.2.1 M.at4.1;unfold pcC at Mx e1
 repeat(first|(with_reducible apply Wp.obind;first|exact z4 _ _|exact z9 _ _ _)|((with_reducible apply y30 Mx);rfl)|((with_reducible apply y1d Mx);rfl)|((with_reducible apply y9 Mx);clear Mx;intro _ Mx)|rw[z10])
 refine Wp.cl4 (e1 _ Mx) Mx fun h3 M3=>?_;clear Mx;have Mx:=M3;clear M3;have oq:=z14a hq.l hp.l;have op:=z14a hp.f hq.f;cases hpe:p.empty with
 |false=>
  cases hqe:q.empty with
  |false=>
   rw[hpe,hqe] at Mx
   repeat(first|(with_reducible apply Wp.obind;first|exact z4 _ _|exact z5 _|exact z9 _ _ _)|((with_reducible apply y17 Mx);rfl)|((with_reducible apply y11 Mx);rfl;rfl;(rfl);clear Mx;intro _ Mx)|((with_reducible apply y30 Mx);rfl)|((with_reducible apply y26 Mx);rfl)|((with_reducible apply y2a Mx);rfl;rfl;(rfl);clear Mx;intro _ Mx)|((with_reducible apply y1d Mx);rfl)|((with_reducible apply y5a Mx);rfl)|((with_reducible apply y9 Mx);clear Mx;intro _ Mx)|(with_reducible first|(first|refine yf (fun _ _=>?_)|refine y7 (fun _ _=>?_))|(refine y6 ?_ ?_;rfl)|(first|refine y24 (by assumption) ?_|refine yd (by assumption) ?_))|rw[z10])
   exact Wp.ret ⟨by unfold pcC behN;rw[hpe,hqe];rfl,Mx.at4.1,Mx.at5.1,Mx.tch⟩
  |true=>
   rw[hpe,hqe] at Mx
   repeat(first|(with_reducible apply Wp.obind;first|exact z4 _ _|exact z5 _|exact z9 _ _ _)|((with_reducible apply y21 Mx);rfl)|((with_reducible apply y17 Mx);rfl)|((with_reducible apply y40 Mx);exact Nat.le_of_ble_eq_true rfl;rfl;clear Mx;intro _ Mx)|((with_reducible apply y11 Mx);rfl;rfl;(rfl);clear Mx;intro _ Mx)|((with_reducible apply y30 Mx);rfl)|((with_reducible apply y26 Mx);rfl)|((with_reducible apply y2a Mx);rfl;rfl;(rfl);clear Mx;intro _ Mx)|((with_reducible apply y1d Mx);rfl)|((with_reducible apply y5a Mx);rfl)|((with_reducible apply y9 Mx);clear Mx;intro _ Mx)|(with_reducible first|(first|refine yf (fun _ _=>?_)|refine y7 (fun _ _=>?_))|refine Wp.lett ?_|(refine y8 ?_ ?_;rfl)|(refine y6 ?_ ?_;rfl)|(first|refine y24 (by assumption) ?_|refine yd (by assumption) ?_))|rw[z10])
   rw[oq];exact Wp.ret ⟨by unfold pcC behN;rw[hpe,hqe];rfl,Mx.at4.1,Mx.at5.1,Mx.tch⟩
 |true=>
  cases hqe:q.empty with
  |false=>
   rw[hpe,hqe] at Mx
   repeat(first|(with_reducible apply Wp.obind;first|exact z4 _ _|exact z5 _|exact z9 _ _ _)|((with_reducible apply y21 Mx);rfl)|((with_reducible apply y17 Mx);rfl)|((with_reducible apply y40 Mx);exact Nat.le_of_ble_eq_true rfl;rfl;clear Mx;intro _ Mx)|((with_reducible apply y11 Mx);rfl;rfl;(rfl);clear Mx;intro _ Mx)|((with_reducible apply y30 Mx);rfl)|((with_reducible apply y26 Mx);rfl)|((with_reducible apply y2a Mx);rfl;rfl;(rfl);clear Mx;intro _ Mx)|((with_reducible apply y1d Mx);rfl)|((with_reducible apply y5a Mx);rfl)|((with_reducible apply y9 Mx);clear Mx;intro _ Mx)|(with_reducible first|(first|refine yf (fun _ _=>?_)|refine y7 (fun _ _=>?_))|refine Wp.lett ?_|(refine y8 ?_ ?_;rfl)|(refine y6 ?_ ?_;rfl)|(first|refine y24 (by assumption) ?_|refine yd (by assumption) ?_))|rw[z10])
   rw[op];exact Wp.ret ⟨by unfold pcC behN;rw[hpe,hqe];rfl,Mx.at4.1,Mx.at5.1,Mx.tch⟩
  |true=>
   rw[hpe,hqe] at Mx
   repeat(first|(with_reducible apply Wp.obind;first|exact z4 _ _|exact z5 _|exact z9 _ _ _)|((with_reducible apply y21 Mx);rfl)|((with_reducible apply y17 Mx);rfl)|((with_reducible apply y40 Mx);exact Nat.le_of_ble_eq_true rfl;rfl;clear Mx;intro _ Mx)|((with_reducible apply y11 Mx);rfl;rfl;(rfl);clear Mx;intro _ Mx)|((with_reducible apply y30 Mx);rfl)|((with_reducible apply y26 Mx);rfl)|((with_reducible apply y2a Mx);rfl;rfl;(rfl);clear Mx;intro _ Mx)|((with_reducible apply y1d Mx);rfl)|((with_reducible apply y5a Mx);rfl)|((with_reducible apply y9 Mx);clear Mx;intro _ Mx)|(with_reducible first|(first|refine yf (fun _ _=>?_)|refine y7 (fun _ _=>?_))|refine Wp.lett ?_|(refine y8 ?_ ?_;rfl)|(first|refine y24 (by assumption) ?_|refine yd (by assumption) ?_))|rw[z10])
   rw[op];rw[oq];exact Wp.ret ⟨by unfold pcC behN;rw[hpe,hqe];rfl,Mx.at4.1,Mx.at5.1,Mx.tch⟩
end
section
variable {h:AHeap}{l:List AV}{i:Nat}{v:AV}
set_option maxRecDepth 100000 in
theorem idx64(hi:i<64)(hl:l[i]? =some v):zd0 Tryd.prog h 83 (some (.agg l)) (some (.int .i64 (i:Int)))=some (.val v,h):=by
 have e:Nat.blt i 64=true:=by simpa using hi
 have:zd0 Tryd.prog h 83 (some (.agg l)) (some (.int .i64 (i:Int)))=(if Nat.blt i 64=true then z1ad h l[i*1]? else none):=by kernel_rfl
 rw[this,if_pos e,Nat.mul_one,hl];rfl
set_option maxRecDepth 100000 in
theorem idx256(hi:i<256)(hl:l[i]? =some v):zd0 Tryd.prog h 84 (some (.agg l)) (some (.int .i64 (i:Int)))=some (.val v,h):=by
 have e:Nat.blt i 256=true:=by simpa using hi
 have:zd0 Tryd.prog h 84 (some (.agg l)) (some (.int .i64 (i:Int)))=(if Nat.blt i 256=true then z1ad h l[i*1]? else none):=by kernel_rfl
 rw[this,if_pos e,Nat.mul_one,hl];rfl
end
theorem z36f{w:List Nat}{i:Nat}(h:i<w.length):(z21 w)[i]? =some (.int .u64 ((w.getD i 0:Nat):Int)):=by
 unfold z21;rw[List.getElem?_map,List.getD_eq_getElem?_getD,List.getElem?_eq_getElem h];rfl
def aheadF(fo:List Nat)(these:Nat):Nat→Nat
 |0=>0
 |i+1=>if fo.getD i 0&&&these≠0 then aheadF fo these i|||2 ^ i else aheadF fo these i
theorem z107{fo:List Nat}{these:Nat}:∀(i:Nat),i≤64→aheadF fo these i<18446744073709551616
 |0,_=>by
  show 0<_;decide
 |i+1,h=>by
  rw[aheadF]
  split
  ·exact zb4 (z107 i (by omega)) (z174 (by omega))
  ·exact z107 i (by omega)
def orF(ta:List Nat):Nat→Nat
 |0=>0
 |i+1=>orF ta i|||ta.getD i 0
theorem z2ab{ta:List Nat}(h:∀x∈ta,x<18446744073709551616):∀(i:Nat),orF ta i<18446744073709551616
 |0=>by
  show 0<_;decide
 |i+1=>zb4 (z2ab h i) (zc7 h i)
def z179(fo:List Nat)(sm live:Nat):Nat:=lackN (aheadF fo live 64&&&sm) live
theorem z14e(fo:List Nat)(sm live:Nat):z179 fo sm live<18446744073709551616:=z315 (zac (z107 64 (Nat.le_refl _)))
theorem more_up{fo:List Nat}{sm live:Nat}(h:z179 fo sm live≠0):live<live|||z179 fo sm live:=by
 refine Nat.lt_of_le_of_ne Nat.left_le_or fun e=>h ?_;refine Nat.eq_of_testBit_eq fun i=>?_;rw[Nat.zero_testBit];cases hb:(z179 fo sm live).testBit i with
 |false=>rfl
 |true=>
  have h2:live.testBit i=true:=by rw[e,Nat.testBit_or,hb,Bool.or_true]
  unfold z179 at hb;rw[z28e,h2] at hb
  simp at hb
def z2ed(fo:List Nat)(sm:Nat):Nat→Nat→Nat→Nat
 |0,live,_=>live
 |f+1,live,more=>if more=0 then live else z2ed fo sm f (live|||z179 fo sm live) (z179 fo sm live)
theorem z2bf{fo:List Nat}{sm:Nat}:∀(f:Nat) {live:Nat} (more:Nat),live<18446744073709551616→z2ed fo sm f live more<18446744073709551616
 |0,_,_,h=>h
 |f+1,_,_,h=>by
  rw[z2ed]
  split
  ·exact h
  ·exact z2bf f _ (zb4 h (z14e _ _ _))
def cutG(live _i x:Nat):Nat:=x&&&live
def Nt.live(N:Nt):Nat:=z2ed N.fo (orF N.ta 256) 18446744073709551620 (N.last&&&orF N.ta 256) (N.last&&&orF N.ta 256)
def Nt.trim(N:Nt):Nt:={N with first:=N.first&&&N.live,ta:=z34e (cutG N.live) 0 N.ta}
theorem NtOk.trim{N:Nt}(k:NtOk N):NtOk N.trim:=
 ⟨k.fl,by show (z34e _ _ _).length=_;rw[z1d2];exact k.tl,zac k.f,k.l,k.fs,z1d1 k.ts fun i x hx=>zac hx⟩
theorem y56{N:Nt}(k:NtOk N):N.live<18446744073709551616:=z2bf _ _ (zac k.l)
def behF(fo:List Nat):Nat→Nat→Nat→Nat
 |0,_,acc=>acc
 |f+1,m,acc=>if m=0 then acc else behF fo f (m&&&(m - 1)) (acc|||fo.getD (tzN m) 0)
theorem z32b{fo:List Nat}(hf:∀x∈fo,x<18446744073709551616):∀(f m:Nat) {acc:Nat},acc<18446744073709551616→behF fo f m acc<18446744073709551616
 |0,_,_,h=>h
 |f+1,_,_,h=>by
  rw[behF]
  split
  ·exact h
  ·exact z32b hf f _ (zb4 h (zc7 hf _))
def Nt.behind(N:Nt)(m:Nat):Nat:=behF N.fo 18446744073709551620 m 0
theorem Nt.behind_small{N:Nt}(k:NtOk N)(m:Nat):N.behind m<18446744073709551616:=z32b k.fs _ _ (by decide)
section
variable {N:Nt}{n d nb:Nat}{h:AHeap}{Q:ARes→AHeap→Prop}
theorem net_drop3(k:NtOk N):((netC N).drop 3).take 64=z21 N.fo:=by
 show (z21 N.fo++z21 N.ta).take 64=_;rw[List.take_append_of_le_length (by rw[z5d,k.fl];exact Nat.le_refl _),List.take_of_length_le (by rw[z5d,k.fl];exact Nat.le_refl _)]
theorem z46c(k:NtOk N):((netC N).drop 67).take 256=z21 N.ta:=by
 show ((z21 N.fo++z21 N.ta).drop 64).take 256=_;rw[List.drop_append_of_le_length (by rw[z5d,k.fl];exact Nat.le_refl _),List.drop_of_length_le (by rw[z5d,k.fl];exact Nat.le_refl _),List.nil_append,List.take_of_length_le (by rw[z5d,k.tl];exact Nat.le_refl _)]
theorem z32e{these:Nat}{fo:List Nat}{k9:Int→AHeap→R}(hl:fo.length=64)(hs:∀x∈fo,x<18446744073709551616)(ht:these<18446744073709551616)(hk:Wp (k9 (aheadF fo these 64:Nat) h) Q):∀(m f i:Nat),m<f→i+m=64→Wp (zc0 (these:Int) (z21 fo) k9 f (aheadF fo these i:Nat) (i:Int) h) Q
 |_,0,_,hf,_=>by omega
 |0,f+1,i,hf,hm=>by
  have:i=64:=by omega
  subst this;rw[z109];unfold za4
  repeat(first|(with_reducible refine Wp.lett ?_)|((with_reducible refine y6 ?_ ?_;apply decide_eq_false);omega))
  exact hk
 |m+1,f+1,i,hf,hm=>by
  rw[z109];unfold za4;have hi:i<64:=by omega
  have e1:=idx64 (h:=h) hi (z36f (w:=fo) (i:=i) (by omega));have e2:=z111 (zc7 hs i) ht;have e3:=z33b hi;have e4:=z14a (z107 (fo:=fo) (these:=these) i (by omega)) (z174 hi);have el:(i:Int)+1=((i+1:Nat):Int):=by omega
  have ih:=z32e hl hs ht hk m f (i+1) (by omega) (by omega);rw[aheadF] at ih
  ((with_reducible refine Wp.lett ?_))
  refine y8 (decide_eq_true (by omega)) ?_;refine Wp.outK e1 ?_;refine Wp.obind (z4 _ _) ?_;refine Wp.lett ?_;rw[e2]
  by_cases hz:fo.getD i 0&&&these≠0
  ·rw [if_pos hz] at ih
   repeat(first|(with_reducible refine y7 (fun _ _=>?_))|((with_reducible refine ye ?_ ?_ ?_);omega;omega)|(with_reducible first|refine Wp.lett ?_|(apply Wp.obind;exact e3))|((with_reducible refine y8 ?_ ?_;apply z23c);omega)|(with_reducible refine yd (by assumption) ?_))
   rw[e4];rw[el];exact ih
  ·rw [if_neg hz] at ih
   repeat(first|(with_reducible refine y7 (fun _ _=>?_))|((with_reducible refine ye ?_ ?_ ?_);omega;omega)|(with_reducible refine Wp.lett ?_)|((with_reducible refine y6 ?_ ?_;apply z1c8);omega)|(with_reducible refine yd (by assumption) ?_))
   rw[el];exact ih
theorem ahead_w{these:Nat}(hN:NtOk N)(ht:these<18446744073709551616)(hn:64<n)(kn:RowH h nb TNet (netC N)):world n (d+1) 60 [.ptr nb 0,.int .u64 (these:Int)] h=some (.ret (.int .u64 (aheadF N.fo these 64:Nat)),h):=by
 apply Wp.eq;rw[z297];unfold zdc
 have e1:z16 h 64 (.ptr nb (0+3))=some (z21 N.fo):=by
  rw[←net_drop3 hN];exact kn.ld (by rw[z259 hN];decide)
 repeat(with_reducible first|refine y7 (fun _ _=>?_)|(apply Wp.obind;first|exact e1|exact z11 _ _|exact z9 _ _ _))
 rename_i k9 ek9;refine z32e hN.fl hN.fs ht ?_ 64 n 0 (by omega) rfl;rw[ek9];exact Wp.ret ⟨rfl,rfl⟩
theorem z450{k5:Int→AHeap→R}(hT:HasTz h)(hN:NtOk N)(kn:RowH h nb TNet (netC N)):∀(f F m acc:Nat),m<f→m<F→m<18446744073709551616→acc<18446744073709551616→Wp (k5 (behF N.fo F m acc:Nat) h) Q→Wp (za3 (world n (d+1)) (.ptr nb 0) k5 f (m:Int) (acc:Int) h) Q
 |0,_,_,_,hf,_,_,_,_=>by omega
 |_,0,_,_,_,hf,_,_,_=>by omega
 |f+1,F+1,m,acc,hf,hF,hm,ha,hk=>by
  rw[z14d];unfold zcb;rw[behF] at hk
  by_cases h0:m=0
  ·rw [if_pos h0] at hk
   repeat(first|(with_reducible refine Wp.lett ?_)|((with_reducible refine y6 ?_ ?_;apply z1c8);omega))
   exact hk
  ·rw [if_neg h0] at hk
   have e0:=tz_w (n:=n) (d:=d) hT hm h0;have e1:=z163 (b:=nb) (o:=0+3) (z49e m);have e2:z7 h (.ptr nb (0+3+tzN m))=some (.int .u64 (N.fo.getD (tzN m) 0:Int)):=y5 kn (by rw[Nat.zero_add,net_fo hN (z49e m)]);have e3:=z14a ha (zc7 hN.fs (tzN m))
   have e4:IntKind.u64.wrap ((m:Int) - 1)=((m - 1:Nat):Int):=by
    rw[z86];omega
   have e5:=z111 hm (y:=m - 1) (by omega);have hl:=low_lt h0
   ((with_reducible refine Wp.lett ?_))
   refine y8 (z23c (by omega)) ?_
   repeat(first|((with_reducible refine y5e ?_ ?_ ?_);omega;omega)|(with_reducible first|refine Wp.lett ?_|(apply Wp.obind;first|exact e1|exact e2|exact z4 _ _|exact z11 _ _|exact z9 _ _ _)|(apply Wp.callN;exact e0)))
   rw[e3,show ((m:Int) - 1)=((m - 1:Nat):Int) by omega,e5];refine z450 hT hN kn f F (m&&&(m - 1)) _ (by omega) (by omega) (by omega) (zb4 ha (zc7 hN.fs _)) hk
theorem beh_w{m:Nat}(hT:HasTz h)(hN:NtOk N)(kn:RowH h nb TNet (netC N))(hm:m<18446744073709551616)(hn:18446744073709551616<n):world n (d+2) 62 [.ptr nb 0,.int .u64 (m:Int)] h=some (.ret (.int .u64 (N.behind m:Nat)),h):=by
 apply Wp.eq;rw[z27e];unfold zc4
 ((with_reducible refine y7 (fun _ _=>?_)))
 rename_i k5 ek5;refine z450 hT hN kn n 18446744073709551620 m 0 (by omega) (by omega) hm (by decide) ?_;rw[ek5];exact Wp.ret ⟨rfl,rfl⟩
end
section
variable {N:Nt}{n d nb:Nat}{h:AHeap}{Q:ARes→AHeap→Prop}
theorem z37b{ta:List Nat}{k8:Int→AHeap→R}(hl:ta.length=256)(hs:∀x∈ta,x<18446744073709551616)(hk:Wp (k8 (orF ta 256:Nat) h) Q):∀(m f i:Nat),m<f→i+m=256→Wp (zd1 (z21 ta) k8 f (orF ta i:Nat) (i:Int) h) Q
 |_,0,_,hf,_=>by omega
 |0,f+1,i,hf,hm=>by
  have:i=256:=by omega
  subst this;rw[z118];unfold zbe
  repeat(first|(with_reducible refine Wp.lett ?_)|((with_reducible refine y6 ?_ ?_;apply decide_eq_false);omega))
  exact hk
 |m+1,f+1,i,hf,hm=>by
  rw[z118];unfold zbe;have hi:i<256:=by omega
  have e1:=idx256 (h:=h) hi (z36f (w:=ta) (i:=i) (by omega));have e4:=z14a (z2ab hs i) (zc7 hs i);have el:(i:Int)+1=((i+1:Nat):Int):=by omega
  have ih:=z37b hl hs hk m f (i+1) (by omega) (by omega);rw[orF] at ih
  ((with_reducible refine Wp.lett ?_))
  refine y8 (decide_eq_true (by omega)) ?_;refine Wp.outK e1 ?_;refine Wp.obind (z4 _ _) ?_;refine Wp.lett ?_;rw[e4]
  repeat(((with_reducible refine ye ?_ ?_ ?_);omega;omega))
  rw[el];exact ih
theorem z39d{sm:Nat}{k19:Int→AHeap→R}(hN:NtOk N)(hs:sm<18446744073709551616)(hn:64<n)(kn:RowH h nb TNet (netC N)):∀(f F live more:Nat),(if more=0 then 0 else 18446744073709551616 - live)<f→(if more=0 then 0 else 18446744073709551616 - live)<F→live<18446744073709551616→more<18446744073709551616→Wp (k19 (z2ed N.fo sm F live more:Nat) h) Q→Wp (zd2 (world n (d+1)) (.ptr nb 0) (sm:Int) k19 f (live:Int) (more:Int) h) Q
 |0,_,_,_,hf,_,_,_,_=>by omega
 |_,0,_,_,_,hf,_,_,_=>by omega
 |f+1,F+1,live,more,hf,hF,hl,hm,hk=>by
  rw[z178];unfold zf2;rw[z2ed] at hk
  by_cases h0:more=0
  ·rw [if_pos h0] at hk
   repeat(first|(with_reducible refine Wp.lett ?_)|((with_reducible refine y6 ?_ ?_;apply z1c8);omega))
   exact hk
  ·rw [if_neg h0] at hk hf hF
   have e0:=ahead_w (d:=d) hN hl hn kn;have e1:=z111 (z107 (fo:=N.fo) (these:=live) 64 (Nat.le_refl _)) hs;have e2:z369 .u64 ((aheadF N.fo live 64&&&sm:Nat):Int) (live:Int)=((z179 N.fo sm live:Nat):Int):=z40d (zac (z107 64 (Nat.le_refl _))) hl;have e3:=z14a hl (z14e N.fo sm live);have hup:z179 N.fo sm live≠0→live<live|||z179 N.fo sm live:=more_up;have hsm:=zb4 hl (z14e N.fo sm live)
   ((with_reducible refine Wp.lett ?_))
   refine y8 (z23c (by omega)) ?_;refine Wp.callN e0 ?_;refine Wp.obind (z4 _ _) ?_;refine Wp.lett ?_;rw[e1];refine Wp.lett ?_;rw[e2];refine Wp.lett ?_;rw[e3];refine z39d hN hs hn kn f F _ _ ?_ ?_ hsm (z14e _ _ _) hk
   ·split
    ·omega
    ·have := hup (by assumption)
     omega
   ·split
    ·omega
    ·have := hup (by assumption)
     omega
theorem z447{live:Nat}{k33:AHeap→R}(hN:NtOk N)(hs:live<18446744073709551616):∀(m f i:Nat) (H:AHeap),m<f→i+m=256→RowH H nb TNet (netC {N with ta:=upd (cutG live) i N.ta})→
  (∀H',RowH H' nb TNet (netC {N with ta:=z34e (cutG live) 0 N.ta})→Tch [nb] H H'→Wp (k33 H') Q)→Wp (zd3 (.ptr nb 0) (live:Int) k33 f (i:Int) H) Q
 |_,0,_,_,hf,_,_,_=>by omega
 |0,f+1,i,H,hf,hm,kn,hk=>by
  rw[z119];unfold zbf
  repeat(first|(with_reducible refine Wp.lett ?_)|((with_reducible refine y6 ?_ ?_;apply decide_eq_false);omega))
  refine hk H ?_ (Tch.refl _ _);have:i=256:=by omega
  subst this;rw[z339 hN.tl] at kn;exact kn
 |m+1,f+1,i,H,hf,hm,kn,hk=>by
  rw[z119];unfold zbf;have hi:i<256:=by omega
  have hN2:NtOk {N with ta:=upd (cutG live) i N.ta}:=⟨hN.fl,by show (upd _ _ _).length=_;rw[z337];exact hN.tl,hN.f,hN.l,hN.fs,z299 hN.ts fun i x hx=>zac hx⟩;have el:(i:Int)+1=((i+1:Nat):Int):=by omega
  have e3:=z163 (b:=nb) (o:=0+67) hi;have c2:z7 H (.ptr nb (0+67+i))=some (.int .u64 (N.ta.getD i 0:Int)):=y5 kn (by rw[Nat.zero_add,net_ta hN2 hi];show some (AV.int .u64 (((upd _ _ _).getD i 0:Nat):Int))=_;rw[z338]);have e4:=z111 (zc7 hN.ts i) hs
  repeat(first|(with_reducible first|refine Wp.lett ?_|(apply Wp.obind;first|exact e3|exact c2|exact z4 _ _|exact z11 _ _|exact z9 _ _ _))|((with_reducible refine y8 ?_ ?_;apply decide_eq_true);omega))
  rw[e4];refine Wp.st1 kn (by rw[z259 hN2];omega) rfl fun h' k' t' _=>?_;rw[Nat.zero_add,z30f hN2 hi] at k'
  repeat(((with_reducible refine ye ?_ ?_ ?_);omega;omega))
  rw[el];refine z447 hN hs m f (i+1) h' (by omega) (by omega) ?_ fun H' k2 t2=>hk H' k2 (t'.trans t2);have hu:=z3ce (g:=cutG live) (k:=i) (l:=N.ta) (by rw[hN.tl];exact hi);rw[←hu];exact k'
theorem trim_r(hN:NtOk N)(hn:18446744073709551620<n)(kn:RowH h nb TNet (netC N)):∃h',world n (d+2) 38 [.ptr nb 0] h=some (.ret (.tup []),h')∧RowH h' nb TNet (netC N.trim)∧Tch [nb] h h':=by
 apply Wp.ex;rw[z2e7];unfold z103
 have e1:z16 h 256 (.ptr nb (0+67))=some (z21 N.ta):=by
  rw[←z46c hN];exact kn.ld (by rw[z259 hN];decide)
 repeat(with_reducible first|refine y7 (fun _ _=>?_)|(apply Wp.obind;first|exact e1|exact z11 _ _|exact z9 _ _ _))
 rename_i k8 ek8;refine z37b hN.tl hN.ts ?_ 256 n 0 (by omega) rfl;rw[ek8];have hsm:=z2ab hN.ts 256;have c1:z7 h (.ptr nb (0+2))=some (.int .u64 (N.last:Int)):=y5 kn rfl;have e2:=z111 hN.l hsm;have hl:=zac (b:=orF N.ta 256) hN.l
 repeat(with_reducible first|refine y7 (fun _ _=>?_)|refine Wp.lett ?_|(apply Wp.obind;first|exact c1|exact z4 _ _|exact z11 _ _|exact z9 _ _ _))
 rename_i k19 ek19;rw[e2];refine z39d hN hsm (by omega) kn n 18446744073709551620 _ _ (by split<;>omega) (by split<;>omega) hl hl ?_;rw[ek19];have hL:=y56 hN;have c2:z7 h (.ptr nb (0+1))=some (.int .u64 (N.first:Int)):=y5 kn rfl;have e3:=z111 hN.f hL;have eL:z2ed N.fo (orF N.ta 256) 18446744073709551620 (N.last&&&orF N.ta 256) (N.last&&&orF N.ta 256)=N.live:=rfl;rw[eL]
 repeat(with_reducible first|refine Wp.lett ?_|(apply Wp.obind;first|exact c2|exact z4 _ _|exact z11 _ _|exact z9 _ _ _))
 rw[e3];refine Wp.st1 kn (by rw[z259 hN];omega) rfl fun h' k' t' _=>?_
 repeat((with_reducible refine yf (fun _ _=>?_)))
 rename_i k33 ek33;refine z447 (N:={N with first:=N.first&&&N.live}) ⟨hN.fl,hN.tl,zac hN.f,hN.l,hN.fs,hN.ts⟩ hL 256 n 0 h' (by omega) rfl ?_ fun H' k2 t2=>?_
 ·rw [z336]
  exact k'
 ·rw [ek33]
  exact Wp.ret ⟨rfl,k2,t'.trans t2⟩
end
mutual
def Nd.sz:Nd→Nat
 | .mk _ _ ks=>szL ks+1
def szL:List Nd→Nat
 |[]=>0
 |k::ks=>Nd.sz k+szL ks+1
end
theorem z3d2:∀ks:List Nd,ks.length≤szL ks
 |[]=>Nat.zero_le _
 |k::ks=>by
  have:=z3d2 ks;rw[List.length_cons,szL];omega
def RowsAt(h:AHeap)(T:List zd8):Prop:=∀y∈T,RowH h y.1 y.2.1 y.2.2∧y.1<h.next
theorem RowsAt.keep{h h':AHeap}{T:List zd8}(k:RowsAt h T)(t:Tch [] h h'):RowsAt h' T:=fun y hy=>⟨(k y hy).1.tch t (k y hy).2 (by simp),Nat.lt_of_lt_of_le (k y hy).2 t.1⟩
theorem RowsAt.left{h:AHeap}{T T':List zd8}(k:RowsAt h (T++T')):RowsAt h T:=fun y hy=>k y (List.mem_append_left _ hy)
theorem RowsAt.right{h:AHeap}{T T':List zd8}(k:RowsAt h (T++T')):RowsAt h T':=fun y hy=>k y (List.mem_append_right _ hy)
theorem z1d6{h:AHeap}{kc:List (List AV)}{kv:AV}{T:List zd8}(g:GrowT z26 6 kc kv T)(k:RowsAt h T):Slc h.next h 6 kv kc:=by
 refine Sli.slc (e:=z26) (lo:=0) ⟨fun r hr=>g.1 r hr,?_⟩
 rcases g.2 with⟨h1,h2,_⟩|⟨h1,c,h2,rfl⟩
 ·exact .inl ⟨h1,h2⟩
 ·obtain ⟨k1, k2⟩ := k (c, z26, kc.flatten) (by simp)
  exact .inr ⟨c,h1,h2,Nat.zero_le _,k2,k1⟩
theorem Slc.keep{h h':AHeap}{v:AV}{kc:List (List AV)}{T:List zd8}(g:GrowT z26 6 kc v T)(k:RowsAt h T)(t:Tch [] h h'):Slc h'.next h' 6 v kc:=z1d6 g (k.keep t)
open Go.RowKit Abs
def noPc:Pc:=⟨true,0,0⟩
def altP(p q:Pc):Pc:=⟨p.empty||q.empty,p.first|||q.first,p.last|||q.last⟩
mutual
def z42:Nd→Nt→Nat→Pc×Nt×Nat
 | .mk op w ks,N,u=>
  if op=2 then (⟨false,bitN u,bitN u⟩,N.place w (bitN u),u+1)
  else if op=3 then catN ks noPc N u
  else if op=4 then altN ks ⟨false,0,0⟩ N u
  else if op=5∨op=6 then (⟨(z1ab ks N u).1.empty||decide (op=5),(z1ab ks N u).1.first,(z1ab ks N u).1.last⟩,(z1ab ks N u).2.1.follow (z1ab ks N u).1.last (z1ab ks N u).1.first,(z1ab ks N u).2.2)
  else if op=7 then (⟨true,(z1ab ks N u).1.first,(z1ab ks N u).1.last⟩,(z1ab ks N u).2.1,(z1ab ks N u).2.2)
  else (noPc,N,u)
def catN:List Nd→Pc→Nt→Nat→Pc×Nt×Nat
 |[],p,N,u=>(p,N,u)
 |k::ks,p,N,u=>catN ks (behN p (z42 k N u).1) ((z42 k N u).2.1.follow p.last (z42 k N u).1.first) (z42 k N u).2.2
def altN:List Nd→Pc→Nt→Nat→Pc×Nt×Nat
 |[],p,N,u=>(p,N,u)
 |k::ks,p,N,u=>altN ks (altP p (z42 k N u).1) (z42 k N u).2.1 (z42 k N u).2.2
def z1ab:List Nd→Nt→Nat→Pc×Nt×Nat
 |[],N,u=>(noPc,N,u)
 |k::_,N,u=>z42 k N u
end
structure ROk (x:Pc×Nt×Nat) (b:Nat):Prop where
 p:PcOk x.1
 n:NtOk x.2.1
 u:x.2.2≤b
theorem altP_ok{p q:Pc}(a:PcOk p)(b:PcOk q):PcOk (altP p q):=⟨zb4 a.f b.f,zb4 a.l b.l⟩
theorem z2b2:PcOk noPc:=⟨by decide,by decide⟩
mutual
theorem zcf:∀(t:Nd) {N:Nt} {u:Nat},NtOk N→ROk (z42 t N u) (u+t.sz)
 | .mk op w ks,N,u,k=>by
  rw[z42,Nd.sz]
  split
  ·exact⟨⟨z1da u,z1da u⟩,k.place (z1da u),by show u+1≤_;omega⟩
  split
  ·have := catN_ok ks (u := u) z2b2 k
   exact⟨this.p,this.n,Nat.le_trans this.u (by omega)⟩
  split
  ·have := altN_ok ks (p := ⟨false, 0, 0⟩) (u := u) ⟨by decide, by decide⟩ k
   exact⟨this.p,this.n,Nat.le_trans this.u (by omega)⟩
  have hh:=z436 ks (u:=u) k
  split
  ·exact⟨⟨hh.p.f,hh.p.l⟩,hh.n.follow hh.p.f,Nat.le_trans hh.u (by omega)⟩
  split
  ·exact⟨⟨hh.p.f,hh.p.l⟩,hh.n,Nat.le_trans hh.u (by omega)⟩
  ·exact⟨z2b2,k,by show u≤_;omega⟩
theorem catN_ok:∀(ks:List Nd) {p:Pc} {N:Nt} {u:Nat},PcOk p→NtOk N→ROk (catN ks p N u) (u+szL ks)
 |[],p,N,u,hp,hN=>⟨hp,hN,by show u≤_;omega⟩
 |k::ks,p,N,u,hp,hN=>by
  have h1:=zcf k (u:=u) hN;have h2:=catN_ok ks (u:=(z42 k N u).2.2) (z40a hp h1.p) (h1.n.follow (those:=p.last) h1.p.f);rw[catN,szL];exact⟨h2.p,h2.n,Nat.le_trans h2.u (by have:=h1.u;omega)⟩
theorem altN_ok:∀(ks:List Nd) {p:Pc} {N:Nt} {u:Nat},PcOk p→NtOk N→ROk (altN ks p N u) (u+szL ks)
 |[],p,N,u,hp,hN=>⟨hp,hN,by show u≤_;omega⟩
 |k::ks,p,N,u,hp,hN=>by
  have h1:=zcf k (u:=u) hN;have h2:=altN_ok ks (u:=(z42 k N u).2.2) (altP_ok hp h1.p) h1.n;rw[altN,szL];exact⟨h2.p,h2.n,Nat.le_trans h2.u (by have:=h1.u;omega)⟩
theorem z436:∀(ks:List Nd) {N:Nt} {u:Nat},NtOk N→ROk (z1ab ks N u) (u+szL ks)
 |[],N,u,hN=>⟨z2b2,hN,by show u≤_;omega⟩
 |k::ks,N,u,hN=>by
  have h1:=zcf k (u:=u) hN;rw[z1ab,szL];exact⟨h1.p,h1.n,Nat.le_trans h1.u (by omega)⟩
end
mutual
def z3c8:Nd→Prop
 | .mk op _ ks=>((3≤op→ks≠[])∧(5≤op→ks.length=1))∧oneL ks
def oneL:List Nd→Prop
 |[]=>True
 |k::ks=>z3c8 k∧oneL ks
end
theorem y34{S:List Nat}{h0 h h':AHeap}{xs ys:List zd8}{b c:Nat}{e f:TypeId}{l l' m m':List AV}(M:Mem S h0 h (xs++(b,e,l)::(c,f,m)::ys))(ht:Tch [b,c] h h')(k1:RowH h' b e l')(k2:RowH h' c f m'):Mem S h0 h' (xs++(b,e,l')::(c,f,m')::ys):=by
 have hap:=M.apart;have hle:=ht.1;simp only[List.map_append,List.map_cons] at hap
 have hne:∀x∈xs++ys,x.1≠b∧x.1≠c:=by
  intro x hx;rw[List.nodup_append] at hap;obtain⟨_,h2,h3⟩:=hap;rw[List.nodup_cons,List.nodup_cons] at h2
  rcases List.mem_append.1 hx with hx|hx
  ·exact⟨h3 x.1 (List.mem_map_of_mem hx) b (by simp),h3 x.1 (List.mem_map_of_mem hx) c (by simp)⟩
  ·exact⟨fun hxb=>h2.1 (by rw[←hxb];exact List.mem_cons_of_mem _ (List.mem_map_of_mem hx)),fun hxb=>h2.2.1 (by rw[←hxb];exact List.mem_map_of_mem hx)⟩
 have rb:=M.row (b,e,l) (by simp);have rc:=M.row (c,f,m) (by simp);refine⟨fun x hx=>?_,by simpa only[List.map_append,List.map_cons] using hap,M.tch.trans' ht fun i hi=>?_⟩
 ·have hx' : x ∈ xs ++ ys ∨ x = (b, e, l') ∨ x = (c, f, m') := by
   rcases List.mem_append.1 hx with hx|hx
   ·exact .inl (List.mem_append_left _ hx)
   ·rcases List.mem_cons.1 hx with hx | hx
    ·exact .inr (.inl hx)
    ·rcases List.mem_cons.1 hx with hx | hx
     ·exact .inr (.inr hx)
     ·exact .inl (List.mem_append_right _ hx)
  rcases hx' with hx'|rfl|rfl
  ·obtain ⟨h1, h2, h3⟩ := M.row x (by
    rcases List.mem_append.1 hx' with hx|hx
    ·exact List.mem_append_left _ hx
    ·exact List.mem_append_right _ (List.mem_cons_of_mem _ (List.mem_cons_of_mem _ hx)))
   exact⟨h1.tch ht h2 (by simpa using hne x hx'),by omega,h3⟩
  ·exact⟨k1,Nat.lt_of_lt_of_le rb.2.1 hle,rb.2.2⟩
  ·exact⟨k2,Nat.lt_of_lt_of_le rc.2.1 hle,rc.2.2⟩
 ·simp only [List.mem_cons, List.not_mem_nil, or_false] at hi
  rcases hi with rfl|rfl
  ·exact rb.2.2
  ·exact rc.2.2
theorem RowsAt.keepS{h h':AHeap}{T:List zd8}{S:List Nat}(k:RowsAt h T)(t:Tch S h h')(hS:∀y∈T,y.1 ∉ S):RowsAt h' T:=fun y hy=>⟨(k y hy).1.tch t (k y hy).2 (hS y hy),Nat.lt_of_lt_of_le (k y hy).2 t.1⟩
def PieceW(n D b nb:Nat)(h0:AHeap)(c:List AV)(t:Nd):Prop:=∀(N:Nt) (u:Nat) (h:AHeap),NtOk N→u+t.sz<1000000→Tch [b,nb] h0 h→RowH h b TBl [.ptr nb 0,.int .i64 (u:Int)]→RowH h nb TNet (netC N)→
 ∃h',world n D 37 [.ptr b 0,.agg c] h=some (.ret (.agg (pcC (z42 t N u).1)),h')∧RowH h' b TBl [.ptr nb 0,.int .i64 ((z42 t N u).2.2:Nat)]∧RowH h' nb TNet (netC (z42 t N u).2.1)∧Tch [b,nb] h h'
inductive KidP (n D b nb:Nat) (h0:AHeap):List (List AV)→List Nd→Prop
 |nil:KidP n D b nb h0 [] []
 |cons {c:List AV} {t:Nd} {l:List (List AV)} {ks:List Nd} (e:PieceW n D b nb h0 c t) (k:KidP n D b nb h0 l ks):KidP n D b nb h0 (c::l) (t::ks)
theorem PieceW.keep{n D b nb:Nat}{h0 h1:AHeap}{c:List AV}{t:Nd}(k:PieceW n D b nb h0 c t)(th:Tch [b,nb] h0 h1):PieceW n D b nb h1 c t:=fun N u h a1 a2 a3 a4 a5=>k N u h a1 a2 (th.trans a3) a4 a5
theorem KidP.keep{n D b nb:Nat}{h0 h1:AHeap}{l:List (List AV)}{ks:List Nd}(k:KidP n D b nb h0 l ks)(th:Tch [b,nb] h0 h1):KidP n D b nb h1 l ks:=by
 induction k with
 |nil=>exact .nil
 |cons e _ ih=>exact .cons (e.keep th) ih
theorem z153{α:Type}{K m:List α}{c:α}{i:Nat}(d:K.drop i=c::m):∃hi:i<K.length,K[i]=c∧K.drop (i+1)=m:=by
 have hi:i<K.length:=by
  have:=congrArg List.length d;rw[List.length_drop,List.length_cons] at this;omega
 have g:=List.drop_eq_getElem_cons hi;rw[d] at g;simp only[List.cons.injEq] at g;exact⟨hi,g.1.symm,g.2.symm⟩
theorem drop_nil{α:Type}{K:List α}{i:Nat}(d:K.drop i=[]):K.length≤i:=by
 have:=congrArg List.length d;rw[List.length_drop,List.length_nil] at this;omega
section
variable {h:AHeap}{n d b nb:Nat}{kv:AV}{K:List (List AV)}{T ys:List zd8}{Q:ARes→AHeap→Prop}
theorem z449{k36:AHeap→R}{h4:AHeap}(g:GrowT z26 6 K kv T)(r:RowsAt h T)(hT:∀y∈T,y.1 ∉ [b,nb])(hK:∀c∈K,c.length=6∧c.all AV.one=true)(hn:64<n)(hKn:K.length<1000000)(hne:b≠nb):∀(l:List (List AV)) (ks:List Nd) (i f:Nat) (H:AHeap) (p:Pc) (N:Nt) (u:Nat),KidP n (d+2) b nb h l ks→K.drop i=l→K.length - i<f→NtOk N→PcOk p→u+szL ks<1000000→
  Mem [b,nb] h H ((h4.next,TPc,pcC p)::(b,TBl,[.ptr nb 0,.int .i64 (u:Int)])::(nb,TNet,netC N)::ys)→
  (∀H',Mem [b,nb] h H' ((h4.next,TPc,pcC (catN ks p N u).1)::(b,TBl,[.ptr nb 0,.int .i64 ((catN ks p N u).2.2:Nat)])::(nb,TNet,netC (catN ks p N u).2.1)::ys)→Wp (k36 H') Q)→Wp (z7f (world n (d+2)) (.ptr b 0) h4 kv (K.length:Int) k36 f (i:Int) H) Q
 |_,_,_,0,_,_,_,_,_,_,hf,_,_,_,_,_=>by omega
 |l,ks,i,f+1,H,p,N,u,kk,d1,hf,hN,hp,hu,Mx,hk=>by
  rw[z116];unfold z98
  cases kk with
  |nil=>
   have:=drop_nil d1
   repeat(first|(with_reducible refine Wp.lett ?_)|((with_reducible refine y6 ?_ ?_;apply decide_eq_false);omega))
   exact hk H Mx
  |cons e k=>
   rename_i c t m ks;rw[szL] at hu;obtain⟨hi1,hc,d2⟩:=z153 d1;have rH:=r.keepS Mx.tch hT;obtain⟨p1,_,x1,y1⟩:=(z1d6 g rH).row hi1;obtain⟨l6,o6⟩:=hK _ (List.getElem_mem hi1);rw[hc] at y1 l6 o6;have hr:=zcf t (u:=u) hN;rw[catN] at hk
   repeat(first|((with_reducible apply y9 Mx);clear Mx;intro _ Mx)|(with_reducible first|refine Wp.lett ?_|(apply Wp.obind;first|exact x1|exact y1))|((with_reducible refine y8 ?_ ?_;apply decide_eq_true);omega)|rw[z10])
   refine y11 Mx l6 rfl o6 fun h2 M2=>?_;clear Mx;have Mx:=M2;clear M2;refine y26 Mx rfl ?_;refine y17 Mx l6 ?_;obtain⟨h3,e3,kb3,kn3,t3⟩:=e N u h2 hN (by omega) Mx.tch Mx.at2.1 Mx.at3.1;refine Wp.callN e3 ?_;clear e3;have M3:=y34 (xs:=[_,_]) Mx t3 kb3 kn3;clear Mx;have Mx:=M3;clear M3;simp only[List.cons_append,List.nil_append] at Mx
   repeat(first|((with_reducible refine Wp.chk ?_ ?_);focus ((repeat' (first|(with_reducible exact rfl)|(with_reducible apply z268)|((with_reducible apply Mem.rr1 Mx);kernel_rfl;kernel_rfl)));done))|(with_reducible apply Wp.obind;exact z12 _))
   obtain⟨h5,e5,kb5,kn5,t5⟩:=behind_r (d:=d) (v:=.int .i64 ((z42 t N u).2.2:Nat)) hr.n hp hr.p hn hne Mx.at2.1 Mx.at2.2.1 Mx.at3.1 Mx.at3.2.1;refine Wp.callN e5 ?_;clear e5;have M5:=y34 (xs:=[_,_]) Mx t5 kb5 kn5;clear Mx;have Mx:=M5;clear M5;simp only[List.cons_append,List.nil_append] at Mx
   (((with_reducible apply Wp.obind);(with_reducible exact z12 _)))
   refine y2a Mx rfl rfl rfl fun h6 M6=>?_
   repeat(((with_reducible refine ye ?_ ?_ ?_);omega;omega))
   rw[show (i:Int)+1=((i+1:Nat):Int) by omega];have:=hr.u;exact z449 g r hT hK hn hKn hne m ks (i+1) f h6 _ _ _ k d2 (by omega) (hr.n.follow hr.p.f) (z40a hp hr.p) (by omega) M6.pop hk
theorem z32d{k83:AHeap→R}{h4:AHeap}(g:GrowT z26 6 K kv T)(r:RowsAt h T)(hT:∀y∈T,y.1 ∉ [b,nb])(hK:∀c∈K,c.length=6∧c.all AV.one=true)(hKn:K.length<1000000):∀(l:List (List AV)) (ks:List Nd) (i f:Nat) (H:AHeap) (p:Pc) (N:Nt) (u:Nat),KidP n d b nb h l ks→K.drop i=l→K.length - i<f→NtOk N→PcOk p→u+szL ks<1000000→
  Mem [b,nb] h H ((h4.next,TPc,pcC p)::(b,TBl,[.ptr nb 0,.int .i64 (u:Int)])::(nb,TNet,netC N)::ys)→
  (∀H',Mem [b,nb] h H' ((h4.next,TPc,pcC (altN ks p N u).1)::(b,TBl,[.ptr nb 0,.int .i64 ((altN ks p N u).2.2:Nat)])::(nb,TNet,netC (altN ks p N u).2.1)::ys)→Wp (k83 H') Q)→Wp (z7e (world n d) (.ptr b 0) h4 kv (K.length:Int) k83 f (i:Int) H) Q
 |_,_,_,0,_,_,_,_,_,_,hf,_,_,_,_,_=>by omega
 |l,ks,i,f+1,H,p,N,u,kk,d1,hf,hN,hp,hu,Mx,hk=>by
  rw[z115];unfold z97
  cases kk with
  |nil=>
   have:=drop_nil d1
   repeat(first|(with_reducible refine Wp.lett ?_)|((with_reducible refine y6 ?_ ?_;apply decide_eq_false);omega))
   exact hk H Mx
  |cons e k=>
   rename_i c t m ks;rw[szL] at hu;obtain⟨hi1,hc,d2⟩:=z153 d1;have rH:=r.keepS Mx.tch hT;obtain⟨p1,_,x1,y1⟩:=(z1d6 g rH).row hi1;obtain⟨l6,o6⟩:=hK _ (List.getElem_mem hi1);rw[hc] at y1 l6 o6;have hr:=zcf t (u:=u) hN;rw[altN] at hk
   repeat(first|((with_reducible apply y9 Mx);clear Mx;intro _ Mx)|(with_reducible first|refine Wp.lett ?_|(apply Wp.obind;first|exact x1|exact y1))|((with_reducible refine y8 ?_ ?_;apply decide_eq_true);omega)|rw[z10])
   refine y11 Mx l6 rfl o6 fun h2 M2=>?_;clear Mx;have Mx:=M2;clear M2;refine y17 Mx l6 ?_;obtain⟨h3,e3,kb3,kn3,t3⟩:=e N u h2 hN (by omega) Mx.tch Mx.at2.1 Mx.at3.1;refine Wp.callN e3 ?_;clear e3;have M3:=y34 (xs:=[_,_]) Mx t3 kb3 kn3;clear Mx;have Mx:=M3;clear M3;simp only[List.cons_append,List.nil_append] at Mx;have o1:=z14a hp.f hr.p.f;have o2:=z14a hp.l hr.p.l;have el:(i:Int)+1=((i+1:Nat):Int):=by omega
   have hu2:=hr.u;have fin:=fun h6 M6=>z32d g r hT hK hKn m ks (i+1) f h6 _ _ _ k d2 (by omega) hr.n (altP_ok hp hr.p) (by omega) M6 hk;unfold pcC at Mx
   repeat(first|(with_reducible apply Wp.obind;exact z5 _)|((with_reducible apply y11 Mx);rfl;rfl;(rfl);clear Mx;intro _ Mx)|((with_reducible apply y1d Mx);rfl)|((with_reducible apply y9 Mx);clear Mx;intro _ Mx)|(with_reducible first|refine y7 (fun _ _=>?_)|(apply Wp.obind;exact z12 _))|rw[z10])
   cases hpe:p.empty with
   |true=>
    rw[hpe] at Mx
    repeat(first|(with_reducible apply Wp.obind;exact z4 _ _)|((with_reducible apply y21 Mx);rfl)|((with_reducible apply y1d Mx);rfl)|((with_reducible apply y39 Mx);rfl;rfl;(rfl);clear Mx;intro _ Mx)|((with_reducible refine ye ?_ ?_ ?_);omega;omega)|(with_reducible first|refine Wp.lett ?_|(refine y8 ?_ ?_;rfl)|refine yd (by assumption) ?_))
    rw[o1,o2] at Mx;rw[el];refine fin _ ?_;unfold altP pcC;rw[hpe];exact Mx.pop.pop
   |false=>
    rw[hpe] at Mx
    repeat(first|(with_reducible apply Wp.obind;first|exact z4 _ _|exact z5 _)|((with_reducible apply y21 Mx);rfl)|((with_reducible apply y1d Mx);rfl)|((with_reducible apply y39 Mx);rfl;rfl;(rfl);clear Mx;intro _ Mx)|((with_reducible refine ye ?_ ?_ ?_);omega;omega)|(with_reducible first|refine Wp.lett ?_|(refine y6 ?_ ?_;rfl)|refine yd (by assumption) ?_))
    rw[o1,o2] at Mx;rw[el];refine fin _ ?_;unfold altP pcC;rw[hpe];exact Mx.pop.pop
end
theorem perm5{α:Type}(a b c d e:α):[a,d,e,b,c].Perm [a,b,c,d,e]:=List.Perm.cons a (List.perm_append_comm (l₁:=[d,e]) (l₂:=[b,c]))
def z330(b nb:Nat)(H:AHeap)(x:Pc×Nt×Nat)(r:ARes)(h':AHeap):Prop:=r=.ret (.agg (pcC x.1))∧RowH h' b TBl [.ptr nb 0,.int .i64 (x.2.2:Nat)]∧RowH h' nb TNet (netC x.2.1)∧Tch [b,nb] H h'
section
variable {n d b nb u:Nat}{a b' c' d':Nat}{h H:AHeap}{N:Nt}{kv1:AV}{kc1:List (List AV)}{T01:List zd8}{ks:List Nd}{c1:List AV}{t1:Nd}
theorem piece_set(hw:WordsOk [a,b',c',d'])(hn:256<n)(hu:u<1000000)(hN:NtOk N)(hne:b≠nb)(kb:RowH H b TBl [.ptr nb 0,.int .i64 (u:Int)])(hbH:b<H.next)(kn:RowH H nb TNet (netC N))(hnH:nb<H.next)(hv:kv1.one=true):Wp (z1a (world n (d+2)) n (.ptr b 0) (zae 2 [a,b',c',d'] kv1) H) (z330 b nb H (⟨false,bitN u,bitN u⟩,N.place [a,b',c',d'] (bitN u),u+1)):=by
 unfold z1a;have Mx:=y38 kb hbH kn hnH hne;have o1:=za2 (op:=2) (w:=[a,b',c',d']) hv;refine y19 Mx o1 fun h1 M1=>?_;clear Mx;have Mx:=M1;clear M1
 repeat(first|(with_reducible apply Wp.obind;first|exact z4 _ _|exact z9 _ _ _)|((with_reducible apply y30 Mx);rfl)|((with_reducible apply y9 Mx);clear Mx;intro _ Mx)|(with_reducible refine Wp.lett ?_)|((with_reducible refine y8 ?_ ?_;apply z83);omega)|rw[z10])
 have e1:z16 _ 4 (.ptr H.next (0+1))=some (z21 [a,b',c',d']):=Mx.at1.1.ld (o:=0+1) (n:=4) (by show 5≤6;decide)
 repeat(((with_reducible apply Wp.obind);(with_reducible exact e1)))
 obtain⟨h3,e3,kb3,kn3,t3⟩:=place_r (n:=n) (d:=d+1) hN hw hn hu hne Mx.at2.1 Mx.at2.2.1 Mx.at3.1 Mx.at3.2.1;refine Wp.callN e3 ?_;clear e3 e1;have M3:=y34 (xs:=[_,_]) Mx t3 kb3 kn3;clear Mx;have Mx:=M3;clear M3;simp only[List.cons_append,List.nil_append] at Mx
 repeat(first|((with_reducible apply y17 Mx);rfl)|((with_reducible apply y11 Mx);rfl;rfl;(rfl);clear Mx;intro _ Mx)|(with_reducible apply Wp.obind;exact z12 _))
 exact Wp.ret ⟨rfl,Mx.at2.1,Mx.at3.1,Mx.tch⟩
theorem piece_cat(g1:GrowT z26 6 kc1 kv1 T01)(rH:RowsAt H T01)(hT0:∀y∈T01,y.1 ∉ [b,nb])(hK:∀c∈kc1,c.length=6∧c.all AV.one=true)(hkl:kc1.length<1000000)(hkn:kc1.length<n)(hn:64<n)(hu:u+szL ks<1000000)(kk:KidP n (d+2) b nb H kc1 ks)(hN:NtOk N)(hne:b≠nb)(kb:RowH H b TBl [.ptr nb 0,.int .i64 (u:Int)])(hbH:b<H.next)(kn:RowH H nb TNet (netC N))(hnH:nb<H.next)(hv:kv1.one=true):Wp (z1a (world n (d+2)) n (.ptr b 0) (zae 3 [a,b',c',d'] kv1) H) (z330 b nb H (catN ks noPc N u)):=by
 unfold z1a;have Mx:=y38 kb hbH kn hnH hne;have o1:=za2 (op:=3) (w:=[a,b',c',d']) hv;refine y19 Mx o1 fun h1 M1=>?_;clear Mx;have Mx:=M1;clear M1;have len1:=g1.len
 repeat(first|(with_reducible apply Wp.obind;first|exact z4 _ _|exact z9 _ _ _)|((with_reducible apply y11 Mx);rfl;rfl;(rfl);clear Mx;intro _ Mx)|((with_reducible apply y30 Mx);rfl)|((with_reducible apply y1d Mx);rfl)|((with_reducible apply y9 Mx);clear Mx;intro _ Mx)|(with_reducible first|refine yf (fun _ _=>?_)|refine Wp.lett ?_|(apply Wp.obind;exact len1))|((with_reducible refine y8 ?_ ?_;apply z83);omega)|((with_reducible refine y6 ?_ ?_;apply z90);omega)|rw[z10])
 rename_i kx ekx;have Mp:=Mx.perm (perm5 _ _ _ _ _);refine z449 (h:=H) (ys:=[_,_]) g1 rH hT0 hK (by omega) (by omega) hne kc1 ks 0 n _ noPc N u kk List.drop_zero (by omega) hN z2b2 (by omega) Mp fun H' M'=>?_;clear Mx Mp;have Mx:=M';clear M';rw[ekx]
 repeat(first|((with_reducible apply y17 Mx);rfl)|((with_reducible apply y3b Mx);rfl)|((with_reducible apply y44 Mx);rfl;rfl;(rfl);clear Mx;intro _ Mx)|rw[z10])
 exact Wp.ret ⟨rfl,Mx.at1.1,Mx.at2.1,Mx.tch⟩
theorem piece_alt(g1:GrowT z26 6 kc1 kv1 T01)(rH:RowsAt H T01)(hT0:∀y∈T01,y.1 ∉ [b,nb])(hK:∀c∈kc1,c.length=6∧c.all AV.one=true)(hkl:kc1.length<1000000)(hkn:kc1.length<n)(hu:u+szL ks<1000000)(kk:KidP n (d+2) b nb H kc1 ks)(hN:NtOk N)(hne:b≠nb)(kb:RowH H b TBl [.ptr nb 0,.int .i64 (u:Int)])(hbH:b<H.next)(kn:RowH H nb TNet (netC N))(hnH:nb<H.next)(hv:kv1.one=true):Wp (z1a (world n (d+2)) n (.ptr b 0) (zae 4 [a,b',c',d'] kv1) H) (z330 b nb H (altN ks ⟨false,0,0⟩ N u)):=by
 unfold z1a;have Mx:=y38 kb hbH kn hnH hne;have o1:=za2 (op:=4) (w:=[a,b',c',d']) hv;refine y19 Mx o1 fun h1 M1=>?_;clear Mx;have Mx:=M1;clear M1;have len1:=g1.len
 repeat(first|(with_reducible apply Wp.obind;first|exact z4 _ _|exact z9 _ _ _)|((with_reducible apply y11 Mx);rfl;rfl;(rfl);clear Mx;intro _ Mx)|((with_reducible apply y30 Mx);rfl)|((with_reducible apply y1d Mx);rfl)|((with_reducible apply y9 Mx);clear Mx;intro _ Mx)|(with_reducible first|refine yf (fun _ _=>?_)|refine Wp.lett ?_|(apply Wp.obind;exact len1))|((with_reducible refine y8 ?_ ?_;apply z83);omega)|((with_reducible refine y6 ?_ ?_;apply z90);omega)|rw[z10])
 rename_i kx ekx;have Mp:=Mx.perm (perm5 _ _ _ _ _);refine z32d (h:=H) (ys:=[_,_]) g1 rH hT0 hK (by omega) kc1 ks 0 n _ ⟨false,0,0⟩ N u kk List.drop_zero (by omega) hN ⟨by decide,by decide⟩ (by omega) Mp fun H' M'=>?_;clear Mx Mp;have Mx:=M';clear M';rw[ekx]
 repeat(first|((with_reducible apply y17 Mx);rfl)|((with_reducible apply y3b Mx);rfl)|((with_reducible apply y44 Mx);rfl;rfl;(rfl);clear Mx;intro _ Mx)|rw[z10])
 exact Wp.ret ⟨rfl,Mx.at1.1,Mx.at2.1,Mx.tch⟩
theorem z467(g1:GrowT z26 6 [c1] kv1 T01)(rH:RowsAt H T01)(hT0:∀y∈T01,y.1 ∉ [b,nb])(hn:64<n)(hu:u+t1.sz<1000000)(e:PieceW n (d+2) b nb H c1 t1)(hN:NtOk N)(hne:b≠nb)(kb:RowH H b TBl [.ptr nb 0,.int .i64 (u:Int)])(hbH:b<H.next)(kn:RowH H nb TNet (netC N))(hnH:nb<H.next)(hv:kv1.one=true):Wp (z1a (world n (d+2)) n (.ptr b 0) (zae 5 [a,b',c',d'] kv1) H) (z330 b nb H (⟨(z42 t1 N u).1.empty||decide (5=5),(z42 t1 N u).1.first,(z42 t1 N u).1.last⟩,(z42 t1 N u).2.1.follow (z42 t1 N u).1.last (z42 t1 N u).1.first,(z42 t1 N u).2.2)):=by
 unfold z1a;have Mx:=y38 kb hbH kn hnH hne;have o1:=za2 (op:=5) (w:=[a,b',c',d']) hv;refine y19 Mx o1 fun h1 M1=>?_;clear Mx;have Mx:=M1;clear M1;have hr:=zcf t1 (u:=u) hN
 repeat(first|(with_reducible apply Wp.obind;first|exact z4 _ _|exact z9 _ _ _)|((with_reducible apply y30 Mx);rfl)|((with_reducible apply y9 Mx);clear Mx;intro _ Mx)|(with_reducible first|refine y7 (fun _ _=>?_)|refine Wp.lett ?_)|((with_reducible refine y8 ?_ ?_);first|(with_reducible rfl)|((with_reducible apply z83);omega))|((with_reducible refine y6 ?_ ?_;apply z90);omega)|(with_reducible refine yd (by assumption) ?_)|rw[z10])
 obtain⟨p1,_,x1,y1⟩:=(z1d6 g1 (rH.keepS Mx.tch hT0)).row (i:=0) (by simp);have x2:z171 6 kv1 0=some (.ptr p1 (0*6)):=x1;have y2:z16 _ 6 (.ptr p1 (0*6))=some c1:=y1;clear x1 y1
 repeat(((with_reducible apply Wp.obind);(with_reducible first|exact x2|exact y2)))
 obtain⟨h3,e3,kb3,kn3,t3⟩:=e N u _ hN (by omega) Mx.tch Mx.at2.1 Mx.at3.1;refine Wp.callN e3 ?_;clear e3 x2 y2;have M3:=y34 (xs:=[_,_]) Mx t3 kb3 kn3;clear Mx;have Mx:=M3;clear M3;simp only[List.cons_append,List.nil_append] at Mx
 repeat(first|(with_reducible apply Wp.obind;exact z4 _ _)|((with_reducible apply y21 Mx);rfl)|((with_reducible apply y11 Mx);rfl;rfl;(rfl);clear Mx;intro _ Mx)|((with_reducible apply y9 Mx);clear Mx;intro _ Mx)|(with_reducible apply Wp.obind;exact z12 _)|rw[z10])
 obtain⟨h5,e5,kn5,t5⟩:=z356 (n:=n) (d:=d+1) hr.n hr.p.f hr.p.l (by omega) hne Mx.at3.1 Mx.at3.2.1 Mx.at4.1;refine Wp.callN e5 ?_;clear e5;have M5:=y15 (xs:=[_,_,_,_]) Mx t5 kn5;clear Mx;have Mx:=M5;clear M5;simp only[List.cons_append,List.nil_append] at Mx;cases he:(z42 t1 N u).1.empty with
 |true=>
  unfold pcC at Mx;rw[he] at Mx
  repeat(first|(with_reducible apply Wp.obind;exact z5 _)|((with_reducible apply y21 Mx);rfl)|((with_reducible apply y17 Mx);rfl)|((with_reducible apply y40 Mx);exact Nat.le_of_ble_eq_true rfl;rfl;clear Mx;intro _ Mx)|((with_reducible apply y26 Mx);rfl)|((with_reducible apply y2a Mx);rfl;rfl;(rfl);clear Mx;intro _ Mx)|(with_reducible first|refine y7 (fun _ _=>?_)|(refine y8 ?_ ?_;rfl)|refine yd (by assumption) ?_))
  exact Wp.ret ⟨by unfold pcC;rfl,Mx.at3.1,Mx.at4.1,Mx.tch⟩
 |false=>
  unfold pcC at Mx;rw[he] at Mx
  repeat(first|(with_reducible apply Wp.obind;first|exact z4 _ _|exact z5 _|exact z9 _ _ _)|((with_reducible apply y21 Mx);rfl)|((with_reducible apply y17 Mx);rfl)|((with_reducible apply y40 Mx);exact Nat.le_of_ble_eq_true rfl;rfl;clear Mx;intro _ Mx)|((with_reducible apply y26 Mx);rfl)|((with_reducible apply y2a Mx);rfl;rfl;(rfl);clear Mx;intro _ Mx)|((with_reducible apply y1d Mx);rfl)|(with_reducible first|refine y7 (fun _ _=>?_)|refine Wp.lett ?_|(refine y6 ?_ ?_;rfl)|refine yd (by assumption) ?_))
  exact Wp.ret ⟨by unfold pcC;rfl,Mx.at3.1,Mx.at4.1,Mx.tch⟩
theorem z468(g1:GrowT z26 6 [c1] kv1 T01)(rH:RowsAt H T01)(hT0:∀y∈T01,y.1 ∉ [b,nb])(hn:64<n)(hu:u+t1.sz<1000000)(e:PieceW n (d+2) b nb H c1 t1)(hN:NtOk N)(hne:b≠nb)(kb:RowH H b TBl [.ptr nb 0,.int .i64 (u:Int)])(hbH:b<H.next)(kn:RowH H nb TNet (netC N))(hnH:nb<H.next)(hv:kv1.one=true):Wp (z1a (world n (d+2)) n (.ptr b 0) (zae 6 [a,b',c',d'] kv1) H) (z330 b nb H (⟨(z42 t1 N u).1.empty||decide (6=5),(z42 t1 N u).1.first,(z42 t1 N u).1.last⟩,(z42 t1 N u).2.1.follow (z42 t1 N u).1.last (z42 t1 N u).1.first,(z42 t1 N u).2.2)):=by
 unfold z1a;have Mx:=y38 kb hbH kn hnH hne;have o1:=za2 (op:=6) (w:=[a,b',c',d']) hv;refine y19 Mx o1 fun h1 M1=>?_;clear Mx;have Mx:=M1;clear M1;have hr:=zcf t1 (u:=u) hN
 repeat(first|(with_reducible apply Wp.obind;first|exact z4 _ _|exact z9 _ _ _)|((with_reducible apply y30 Mx);rfl)|((with_reducible apply y9 Mx);clear Mx;intro _ Mx)|(with_reducible first|refine y7 (fun _ _=>?_)|refine Wp.lett ?_)|((with_reducible refine y8 ?_ ?_;apply z83);omega)|((with_reducible refine y6 ?_ ?_;apply z90);omega)|(with_reducible refine yd (by assumption) ?_)|rw[z10])
 obtain⟨p1,_,x1,y1⟩:=(z1d6 g1 (rH.keepS Mx.tch hT0)).row (i:=0) (by simp);have x2:z171 6 kv1 0=some (.ptr p1 (0*6)):=x1;have y2:z16 _ 6 (.ptr p1 (0*6))=some c1:=y1;clear x1 y1
 repeat(((with_reducible apply Wp.obind);(with_reducible first|exact x2|exact y2)))
 obtain⟨h3,e3,kb3,kn3,t3⟩:=e N u _ hN (by omega) Mx.tch Mx.at2.1 Mx.at3.1;refine Wp.callN e3 ?_;clear e3 x2 y2;have M3:=y34 (xs:=[_,_]) Mx t3 kb3 kn3;clear Mx;have Mx:=M3;clear M3;simp only[List.cons_append,List.nil_append] at Mx
 repeat(first|(with_reducible apply Wp.obind;exact z4 _ _)|((with_reducible apply y21 Mx);rfl)|((with_reducible apply y11 Mx);rfl;rfl;(rfl);clear Mx;intro _ Mx)|((with_reducible apply y9 Mx);clear Mx;intro _ Mx)|(with_reducible apply Wp.obind;exact z12 _)|rw[z10])
 obtain⟨h5,e5,kn5,t5⟩:=z356 (n:=n) (d:=d+1) hr.n hr.p.f hr.p.l (by omega) hne Mx.at3.1 Mx.at3.2.1 Mx.at4.1;refine Wp.callN e5 ?_;clear e5;have M5:=y15 (xs:=[_,_,_,_]) Mx t5 kn5;clear Mx;have Mx:=M5;clear M5;simp only[List.cons_append,List.nil_append] at Mx;cases he:(z42 t1 N u).1.empty with
 |true=>
  unfold pcC at Mx;rw[he] at Mx
  repeat(first|(with_reducible apply Wp.obind;exact z5 _)|((with_reducible apply y21 Mx);rfl)|((with_reducible apply y17 Mx);rfl)|((with_reducible apply y40 Mx);exact Nat.le_of_ble_eq_true rfl;rfl;clear Mx;intro _ Mx)|((with_reducible apply y26 Mx);rfl)|((with_reducible apply y2a Mx);rfl;rfl;(rfl);clear Mx;intro _ Mx)|(with_reducible first|refine y7 (fun _ _=>?_)|(refine y8 ?_ ?_;rfl)|refine yd (by assumption) ?_))
  exact Wp.ret ⟨by unfold pcC;rfl,Mx.at3.1,Mx.at4.1,Mx.tch⟩
 |false=>
  unfold pcC at Mx;rw[he] at Mx
  repeat(first|(with_reducible apply Wp.obind;first|exact z4 _ _|exact z5 _|exact z9 _ _ _)|((with_reducible apply y21 Mx);rfl)|((with_reducible apply y17 Mx);rfl)|((with_reducible apply y40 Mx);exact Nat.le_of_ble_eq_true rfl;rfl;clear Mx;intro _ Mx)|((with_reducible apply y26 Mx);rfl)|((with_reducible apply y2a Mx);rfl;rfl;(rfl);clear Mx;intro _ Mx)|((with_reducible apply y1d Mx);rfl)|(with_reducible first|refine y7 (fun _ _=>?_)|refine Wp.lett ?_|(refine y6 ?_ ?_;rfl)|refine yd (by assumption) ?_))
  exact Wp.ret ⟨by unfold pcC;rfl,Mx.at3.1,Mx.at4.1,Mx.tch⟩
theorem piece_opt(g1:GrowT z26 6 [c1] kv1 T01)(rH:RowsAt H T01)(hT0:∀y∈T01,y.1 ∉ [b,nb])(hu:u+t1.sz<1000000)(e:PieceW n (d+2) b nb H c1 t1)(hN:NtOk N)(hne:b≠nb)(kb:RowH H b TBl [.ptr nb 0,.int .i64 (u:Int)])(hbH:b<H.next)(kn:RowH H nb TNet (netC N))(hnH:nb<H.next)(hv:kv1.one=true):Wp (z1a (world n (d+2)) n (.ptr b 0) (zae 7 [a,b',c',d'] kv1) H) (z330 b nb H (⟨true,(z42 t1 N u).1.first,(z42 t1 N u).1.last⟩,(z42 t1 N u).2.1,(z42 t1 N u).2.2)):=by
 unfold z1a;have Mx:=y38 kb hbH kn hnH hne;have o1:=za2 (op:=7) (w:=[a,b',c',d']) hv;refine y19 Mx o1 fun h1 M1=>?_;clear Mx;have Mx:=M1;clear M1;have hr:=zcf t1 (u:=u) hN
 repeat(first|(with_reducible apply Wp.obind;first|exact z4 _ _|exact z9 _ _ _)|((with_reducible apply y30 Mx);rfl)|((with_reducible apply y9 Mx);clear Mx;intro _ Mx)|(with_reducible first|refine y7 (fun _ _=>?_)|refine Wp.lett ?_)|((with_reducible refine y8 ?_ ?_;apply z83);omega)|((with_reducible refine y6 ?_ ?_;apply z90);omega)|(with_reducible refine yd (by assumption) ?_)|rw[z10])
 obtain⟨p1,_,x1,y1⟩:=(z1d6 g1 (rH.keepS Mx.tch hT0)).row (i:=0) (by simp);have x2:z171 6 kv1 0=some (.ptr p1 (0*6)):=x1;have y2:z16 _ 6 (.ptr p1 (0*6))=some c1:=y1;clear x1 y1
 repeat(((with_reducible apply Wp.obind);(with_reducible first|exact x2|exact y2)))
 obtain⟨h3,e3,kb3,kn3,t3⟩:=e N u _ hN (by omega) Mx.tch Mx.at2.1 Mx.at3.1;refine Wp.callN e3 ?_;clear e3 x2 y2;have M3:=y34 (xs:=[_,_]) Mx t3 kb3 kn3;clear Mx;have Mx:=M3;clear M3;simp only[List.cons_append,List.nil_append] at Mx
 repeat(first|((with_reducible apply y17 Mx);rfl)|((with_reducible apply y40 Mx);exact Nat.le_of_ble_eq_true rfl;rfl;clear Mx;intro _ Mx)|((with_reducible apply y11 Mx);rfl;rfl;(rfl);clear Mx;intro _ Mx)|((with_reducible apply y26 Mx);rfl)|((with_reducible apply y2a Mx);rfl;rfl;(rfl);clear Mx;intro _ Mx)|((with_reducible apply y9 Mx);clear Mx;intro _ Mx)|(with_reducible apply Wp.obind;exact z12 _)|rw[z10])
 exact Wp.ret ⟨rfl,Mx.at3.1,Mx.at4.1,Mx.tch⟩
end
mutual
theorem z423:∀(t:Nd) {c:List AV} {T:List zd8} {D n b nb:Nat} {h:AHeap},z3c8 t→NodeT t c T→RowsAt h T→(∀y∈T,y.1 ∉ [b,nb])→b<h.next→nb<h.next→b≠nb→t.sz+2≤D→t.sz+256<n→t.sz<1000000→PieceW n D b nb h c t
 | .mk op w ks,_,_,0,n,b,nb,h,_,_,_,_,_,_,_,hD,_,_=>by omega
 | .mk op w ks,c,T,D+1,n,b,nb,h,⟨on1,on2⟩,k1,r1,hT,hb,hnb,hne,hD,hn,hz=>by
  intro N u H hN hu tH kb kn;rw[Nd.sz] at hD hn hz hu;have hsl:=z3d2 ks
  cases k1 with
  |mk hw g1 ks1=>
   rename_i kc1 kv1 T01 T11;have hT0:∀y∈T01,y.1 ∉ [b,nb]:=fun y hy=>hT y (List.mem_append_left _ hy);have hT1:∀y∈T11,y.1 ∉ [b,nb]:=fun y hy=>hT y (List.mem_append_right _ hy);have hl1:=ks1.len;have hK:∀c∈kc1,c.length=6∧c.all AV.one=true:=g1.1;obtain⟨a,b',c',d',rfl⟩:=z412 hw;have hbH:=Nat.lt_of_lt_of_le hb tH.1;have hnH:=Nat.lt_of_lt_of_le hnb tH.1;obtain⟨d,rfl⟩:∃d,D=d+2:=⟨D - 2,by omega⟩;have hv:=g1.one.1;have rH:=(r1.left.keepS tH hT0);have kk:=(z388 ks (D:=d+2) (n:=n) on2 ks1 r1.right hT1 hb hnb hne (by omega) (by omega) (by omega)).keep tH;apply Wp.ex;rw[z1ef,z42]
   by_cases h2:op=2
   ·subst h2
    rw[if_pos rfl];exact(piece_set hw (by omega) (by omega) hN hne kb hbH kn hnH hv).mono fun _ _ k=>k
   rw[if_neg h2]
   by_cases h3:op=3
   ·subst h3
    rw[if_pos rfl];exact(piece_cat g1 rH hT0 hK (by omega) (by omega) (by omega) (by omega) kk hN hne kb hbH kn hnH hv).mono fun _ _ k=>k
   rw[if_neg h3]
   by_cases h4:op=4
   ·subst h4
    rw[if_pos rfl];exact(piece_alt g1 rH hT0 hK (by omega) (by omega) (by omega) kk hN hne kb hbH kn hnH hv).mono fun _ _ k=>k
   rw[if_neg h4]
   by_cases h5:5≤op∧op≤7
   ·have hone := on1.2 h5.1
    match ks,hone,kk,hl1 with
    |[t1],_,kk,hl1=>
     match kc1,hl1,kk,g1 with
     |[c1],_,.cons e _,g1=>
      rw[szL] at hu hsl;simp only[z1ab]
      by_cases h56:op=5∨op=6
      ·rw [if_pos h56]
       rcases h56 with rfl|rfl
       ·exact(z467 g1 rH hT0 (by omega) (by omega) e hN hne kb hbH kn hnH hv).mono fun _ _ k=>k
       ·exact(z468 g1 rH hT0 (by omega) (by omega) e hN hne kb hbH kn hnH hv).mono fun _ _ k=>k
      rw[if_neg h56]
      obtain rfl:op=7:=by omega
      rw[if_pos rfl];exact(piece_opt g1 rH hT0 (by omega) e hN hne kb hbH kn hnH hv).mono fun _ _ k=>k
   ·rw [if_neg (by omega), if_neg (by omega)]
    unfold z1a;have Mx:=y38 kb hbH kn hnH hne;have o1:=za2 (op:=op) (w:=[a,b',c',d']) hv;refine y19 Mx o1 fun h1 M1=>?_;clear Mx;have Mx:=M1;clear M1
    repeat(first|(with_reducible apply Wp.obind;first|exact z4 _ _|exact z9 _ _ _)|((with_reducible apply y17 Mx);rfl)|((with_reducible apply y11 Mx);rfl;rfl;(rfl);clear Mx;intro _ Mx)|((with_reducible apply y30 Mx);rfl)|((with_reducible apply y9 Mx);clear Mx;intro _ Mx)|(with_reducible first|refine y7 (fun _ _=>?_)|refine Wp.lett ?_)|((with_reducible refine y6 ?_ ?_;apply z90);omega)|(with_reducible refine yd (by assumption) ?_)|rw[z10])
    exact Wp.ret ⟨rfl,Mx.at2.1,Mx.at3.1,Mx.tch⟩
theorem z388:∀(ks:List Nd) {k1:List (List AV)} {T:List zd8} {D n b nb:Nat} {h:AHeap},oneL ks→KidsT ks k1 T→RowsAt h T→(∀y∈T,y.1 ∉ [b,nb])→b<h.next→nb<h.next→b≠nb→szL ks+2≤D→szL ks+256<n→szL ks<1000000→KidP n D b nb h k1 ks
 |[],_,_,_,_,_,_,_,_,k1,_,_,_,_,_,_,_,_=>by
  cases k1
  exact .nil
 |t::ks,_,_,D,n,b,nb,h,⟨p1,p2⟩,k1,r1,hT,hb,hnb,hne,hD,hn,hN=>by
  rw[szL] at hD hn hN
  cases k1 with
  |cons a1 b1=>exact .cons (z423 t p1 a1 r1.left (fun y hy=>hT y (List.mem_append_left _ hy)) hb hnb hne (by omega) (by omega) (by omega)) (z388 ks p2 b1 r1.right (fun y hy=>hT y (List.mem_append_right _ hy)) hb hnb hne (by omega) (by omega) (by omega))
end
section
variable {u:zf}{i:Nat}
theorem atom_esc{c:Nat}{r:Res}(h1:at? u i=some 92)(h2:at? u (i+1)=some c)(k:AtomP u i r):r=.ok (z3c7 c,i+2):=by
 cases k with
 |none h=>rw[h1] at h;cases h
 |open_bad h m=>rw[h1] at h;cases h
 |open_end h m n=>rw[h1] at h;cases h
 |group h m n=>rw[h1] at h;cases h
 |any h=>rw[h1] at h;cases h
 |set_bad h m=>rw[h1] at h;cases h
 |set h m=>rw[h1] at h;cases h
 |sl_end h n=>rw[h2] at n;cases n
 |sl h n=>
  rw[h2] at n
  cases n
  rfl
 |bad h b=>
  rw[h1] at h;cases h;unfold z10e at b;omega
 |one h b n=>
  rw[h1] at h;cases h;exact absurd rfl n.2.2.2
end
section
variable {u:zf}
theorem loopP_one{w:List Nat}{j:Nat}{r:Except Nat (List Nat×Nat)}(a:LoopP u w j r):∀{r':Except Nat (List Nat×Nat)},LoopP u w j r'→r=r':=by
 induction a with
 |done n=>
  intro r' b
  cases b with
  |done _=>rfl
  |bad n' _=>exact absurd n n'
  |more n' _ _=>exact absurd n n'
 |bad n h=>
  intro r' b
  cases b with
  |done n'=>exact absurd n' n
  |bad n' h'=>
   rw[h] at h';cases h';rfl
  |more n' h' _=>
   rw[h] at h';cases h'
 |more n h m ih=>
  intro r' b
  cases b with
  |done n'=>exact absurd n' n
  |bad n' h'=>
   rw[h] at h';cases h'
  |more n' h' m'=>
   rw[h] at h';cases h';exact ih m'
theorem z28b{i:Nat}{r r':Except Nat (List Nat×Nat)}(a:SetP u i r)(b:SetP u i r'):r=r':=by
 cases a with
 |bad h=>
  cases b with
  |bad h'=>
   rw[h] at h';cases h';rfl
  |set h' _=>
   rw[h] at h';cases h'
 |set h m=>
  cases b with
  |bad h'=>
   rw[h] at h';cases h'
  |set h' m'=>
   rw[h] at h';cases h';rw[loopP_one m m']
mutual
theorem ze3:∀{l:List Nd} {i:Nat} {r r':Res},AltP u l i r→AltP u l i r'→r=r'
 |_,_,_,_,.bad h,.bad h'=>by
  cases z123 h h'
  rfl
 |_,_,_,_,.bad h,.last h' _=>by cases z123 h h'
 |_,_,_,_,.bad h,.more h' _ _=>by cases z123 h h'
 |_,_,_,_,.last h _,.bad h'=>by cases z123 h h'
 |_,_,_,_,.last h _,.last h' _=>by
  cases z123 h h'
  rfl
 |_,_,_,_,.last h n,.more h' n' _=>by
  cases z123 h h'
  exact absurd n' n
 |_,_,_,_,.more h _ _,.bad h'=>by cases z123 h h'
 |_,_,_,_,.more h n _,.last h' n'=>by
  cases z123 h h'
  exact absurd n n'
 |_,_,_,_,.more h n m,.more h' n' m'=>by
  cases z123 h h'
  exact ze3 m m'
termination_by structural _ _ _ _ a=>a
theorem z123:∀{l:List Nd} {i:Nat} {r r':Res},RowP u l i r→RowP u l i r'→r=r'
 |_,_,_,_,.stop s,.stop _=>rfl
 |_,_,_,_,.stop s,.bad s' _=>absurd s s'
 |_,_,_,_,.stop s,.more s' _ _=>absurd s s'
 |_,_,_,_,.bad s _,.stop s'=>absurd s' s
 |_,_,_,_,.bad _ h,.bad _ h'=>by
  cases z21b h h'
  rfl
 |_,_,_,_,.bad _ h,.more _ h' _=>by cases z21b h h'
 |_,_,_,_,.more s _ _,.stop s'=>absurd s' s
 |_,_,_,_,.more _ h _,.bad _ h'=>by cases z21b h h'
 |_,_,_,_,.more _ h m,.more _ h' m'=>by
  cases z21b h h'
  exact z123 m m'
termination_by structural _ _ _ _ a=>a
theorem z21b:∀{i:Nat} {r r':Res},PartP u i r→PartP u i r'→r=r'
 |_,_,_,.bad h,.bad h'=>by
  cases z10f h h'
  rfl
 |_,_,_,.bad h,.bare h' _=>by cases z10f h h'
 |_,_,_,.bad h,.sign h' _=>by cases z10f h h'
 |_,_,_,.bare h _,.bad h'=>by cases z10f h h'
 |_,_,_,.bare h _,.bare h' _=>by
  cases z10f h h'
  rfl
 |_,_,_,.bare h n,.sign h' n'=>by
  cases z10f h h'
  exact absurd n n'
 |_,_,_,.sign h _,.bad h'=>by cases z10f h h'
 |_,_,_,.sign h n,.bare h' n'=>by
  cases z10f h h'
  exact absurd n' n
 |_,_,_,.sign h _,.sign h' _=>by
  cases z10f h h'
  rfl
termination_by structural _ _ _ a=>a
theorem z10f:∀{i:Nat} {r r':Res},AtomP u i r→AtomP u i r'→r=r'
 |_,_,_,.none h,b=>by
  cases b<;>first|rfl|(rename_i h' _;rw[h] at h';cases h';done)|(rename_i h' _ _;rw[h] at h';cases h';done)|(rename_i h';rw[h] at h';cases h';done)
 |_,_,_,.open_bad h m,b=>by
  cases b with
  |open_bad h' m'=>
   cases ze3 m m'
   rfl
  |open_end h' m' n'=>cases ze3 m m'
  |group h' m' n'=>cases ze3 m m'
  |none h'=>rw[h] at h';cases h'
  |any h'=>rw[h] at h';cases h'
  |set_bad h' _=>rw[h] at h';cases h'
  |set h' _=>rw[h] at h';cases h'
  |sl_end h' _=>rw[h] at h';cases h'
  |sl h' _=>rw[h] at h';cases h'
  |bad h' b'=>rw[h] at h';cases h';unfold z10e at b';omega
  |one h' _ n'=>rw[h] at h';cases h';exact absurd rfl n'.1
 |_,_,_,.open_end h m n,b=>by
  cases b with
  |open_bad h' m'=>cases ze3 m m'
  |open_end h' m' n'=>
   cases ze3 m m'
   rfl
  |group h' m' n'=>
   cases ze3 m m'
   exact absurd n' n
  |none h'=>rw[h] at h';cases h'
  |any h'=>rw[h] at h';cases h'
  |set_bad h' _=>rw[h] at h';cases h'
  |set h' _=>rw[h] at h';cases h'
  |sl_end h' _=>rw[h] at h';cases h'
  |sl h' _=>rw[h] at h';cases h'
  |bad h' b'=>rw[h] at h';cases h';unfold z10e at b';omega
  |one h' _ n'=>rw[h] at h';cases h';exact absurd rfl n'.1
 |_,_,_,.group h m n,b=>by
  cases b with
  |open_bad h' m'=>cases ze3 m m'
  |open_end h' m' n'=>
   cases ze3 m m'
   exact absurd n n'
  |group h' m' n'=>
   cases ze3 m m'
   rfl
  |none h'=>rw[h] at h';cases h'
  |any h'=>rw[h] at h';cases h'
  |set_bad h' _=>rw[h] at h';cases h'
  |set h' _=>rw[h] at h';cases h'
  |sl_end h' _=>rw[h] at h';cases h'
  |sl h' _=>rw[h] at h';cases h'
  |bad h' b'=>rw[h] at h';cases h';unfold z10e at b';omega
  |one h' _ n'=>rw[h] at h';cases h';exact absurd rfl n'.1
 |_,_,_,.any h,b=>by
  cases b with
  |any h'=>rfl
  |none h'=>rw[h] at h';cases h'
  |open_bad h' _=>rw[h] at h';cases h'
  |open_end h' _ _=>rw[h] at h';cases h'
  |group h' _ _=>rw[h] at h';cases h'
  |set_bad h' _=>rw[h] at h';cases h'
  |set h' _=>rw[h] at h';cases h'
  |sl_end h' _=>rw[h] at h';cases h'
  |sl h' _=>rw[h] at h';cases h'
  |bad h' b'=>rw[h] at h';cases h';unfold z10e at b';omega
  |one h' _ n'=>rw[h] at h';cases h';exact absurd rfl n'.2.1
 |_,_,_,.set_bad h m,b=>by
  cases b with
  |set_bad h' m'=>cases z28b m m';rfl
  |set h' m'=>cases z28b m m'
  |any h'=>rw[h] at h';cases h'
  |none h'=>rw[h] at h';cases h'
  |open_bad h' _=>rw[h] at h';cases h'
  |open_end h' _ _=>rw[h] at h';cases h'
  |group h' _ _=>rw[h] at h';cases h'
  |sl_end h' _=>rw[h] at h';cases h'
  |sl h' _=>rw[h] at h';cases h'
  |bad h' b'=>rw[h] at h';cases h';unfold z10e at b';omega
  |one h' _ n'=>rw[h] at h';cases h';exact absurd rfl n'.2.2.1
 |_,_,_,.set h m,b=>by
  cases b with
  |set_bad h' m'=>cases z28b m m'
  |set h' m'=>cases z28b m m';rfl
  |any h'=>rw[h] at h';cases h'
  |none h'=>rw[h] at h';cases h'
  |open_bad h' _=>rw[h] at h';cases h'
  |open_end h' _ _=>rw[h] at h';cases h'
  |group h' _ _=>rw[h] at h';cases h'
  |sl_end h' _=>rw[h] at h';cases h'
  |sl h' _=>rw[h] at h';cases h'
  |bad h' b'=>rw[h] at h';cases h';unfold z10e at b';omega
  |one h' _ n'=>rw[h] at h';cases h';exact absurd rfl n'.2.2.1
 |_,_,_,.sl_end h m,b=>by
  cases b with
  |sl_end h' _=>rfl
  |sl h' m'=>rw[m] at m';cases m'
  |set_bad h' m'=>rw[h] at h';cases h'
  |set h' m'=>rw[h] at h';cases h'
  |any h'=>rw[h] at h';cases h'
  |none h'=>rw[h] at h';cases h'
  |open_bad h' _=>rw[h] at h';cases h'
  |open_end h' _ _=>rw[h] at h';cases h'
  |group h' _ _=>rw[h] at h';cases h'
  |bad h' b'=>rw[h] at h';cases h';unfold z10e at b';omega
  |one h' _ n'=>rw[h] at h';cases h';exact absurd rfl n'.2.2.2
 |_,_,_,.sl h m,b=>(atom_esc h m b).symm
 |_,_,_,.bad h b1,b=>by
  unfold z10e at b1
  cases b with
  |bad h' b'=>rfl
  |one h' b' n'=>rw[h] at h';cases h';exact absurd b1 b'
  |sl_end h' _=>rw[h] at h';cases h';omega
  |sl h' m'=>rw[h] at h';cases h';omega
  |set_bad h' m'=>rw[h] at h';cases h';omega
  |set h' m'=>rw[h] at h';cases h';omega
  |any h'=>rw[h] at h';cases h';omega
  |none _=>rfl
  |open_bad h' _=>rw[h] at h';cases h';omega
  |open_end h' _ _=>rw[h] at h';cases h';omega
  |group h' _ _=>rw[h] at h';cases h';omega
 |_,_,_,.one h b1 n,b=>by
  obtain⟨n1,n2,n3,n4⟩:=n
  cases b with
  |bad h' b'=>rw[h] at h';cases h';exact absurd b' b1
  |one h' b' n'=>rw[h] at h';cases h';rfl
  |sl_end h' _=>rw[h] at h';cases h';exact absurd rfl n4
  |sl h' m'=>rw[h] at h';cases h';exact absurd rfl n4
  |set_bad h' m'=>rw[h] at h';cases h';exact absurd rfl n3
  |set h' m'=>rw[h] at h';cases h';exact absurd rfl n3
  |any h'=>rw[h] at h';cases h';exact absurd rfl n2
  |none h'=>rw[h] at h';cases h'
  |open_bad h' _=>rw[h] at h';cases h';exact absurd rfl n1
  |open_end h' _ _=>rw[h] at h';cases h';exact absurd rfl n1
  |group h' _ _=>rw[h] at h';cases h';exact absurd rfl n1
termination_by structural _ _ _ a=>a
end
end
section
variable {a u:zf}{k:Nat}
theorem z3eb{w w':List Nat}{i j:Nat}(h:z10a a w i=.ok (w',j)):i<j∧j≤a.length:=by
 unfold z10a at h
 split at h
 ·cases h
 ·rename_i c j' h1
  obtain⟨_,h2,h3⟩:=z18b h1
  split at h
  ·split at h
   ·cases h
   ·rename_i e k h4
    obtain⟨_,h5,h6⟩:=z18b h4
    split at h
    ·cases h
    ·cases h
     exact⟨by omega,h6⟩
  ·cases h
   exact⟨h2,h3⟩
theorem z39b{w:List Nat}{j:Nat}{r:Except Nat (List Nat×Nat)}(x:LoopP a w j r):j≤a.length→(∀w' j',r=.ok (w',j')→j<j'∧j'≤a.length)∧∀e,r=.error e→e≤a.length:=by
 induction x with
 |done n=>
  intro hj;obtain⟨hp,_⟩:=at?_some n;refine⟨fun w' j' e=>?_,fun e he=>by cases he⟩
  cases e
  exact⟨by omega,by omega⟩
 |bad n h=>
  intro hj;refine⟨fun w' j' e=>(by cases e),fun e he=>?_⟩;cases he;exact z18a hj h
 |more n h m ih=>
  intro hj;obtain⟨b1,b2⟩:=z3eb h;obtain⟨c1,c2⟩:=ih b2;refine⟨fun w' j' e=>?_,c2⟩;obtain⟨d1,d2⟩:=c1 w' j' e;exact⟨by omega,d2⟩
theorem z41d{i:Nat}(hi:i≤a.length):i≤z4aa a i∧z4aa a i≤a.length:=by
 unfold z4aa
 by_cases h94:at? a i=some 94
 ·obtain ⟨hp, _⟩ := at?_some h94
  rw[if_pos h94];omega
 ·rw [if_neg h94]
  omega
theorem setP_bad{i e:Nat}(x:SetP a i (.error e))(hi:i≤a.length):e≤a.length:=by
 obtain⟨s1,s2⟩:=z41d hi
 generalize hr:Except.error e=r at x
 cases x with
 |bad h=>
  cases hr;exact z18a s2 h
 |set h m=>
  rename_i w j r;obtain⟨b1,b2⟩:=z3eb h
  cases r with
  |error e'=>
   cases hr;exact(z39b m b2).2 _ rfl
  |ok wj=>cases hr
theorem z41c{i j:Nat}{w:List Nat}(x:SetP a i (.ok (w,j)))(hi:i≤a.length):i<j∧j≤a.length:=by
 obtain⟨s1,s2⟩:=z41d hi
 generalize hr:Except.ok (w,j)=r at x
 cases x with
 |bad h=>cases hr
 |set h m=>
  rename_i w' j' r;obtain⟨b1,b2⟩:=z3eb h
  cases r with
  |error e'=>cases hr
  |ok wj=>
   obtain⟨w2,j2⟩:=wj;cases hr;obtain⟨c1,c2⟩:=(z39b m b2).1 _ _ rfl;exact⟨by omega,c2⟩
mutual
theorem z196:∀{l:List Nd} {i:Nat} {r:Res},AltP a l i r→i≤a.length→Bnd a i r
 |_,_,_,.bad h,hi=>z1cd h hi
 |_,_,_,.last h _,hi=>by
  obtain⟨b1,b2⟩:=z1cd h hi;exact⟨b1,b2⟩
 |_,_,r,.more h n m,hi=>by
  have h1:=z1cd h hi;obtain⟨hp,_⟩:=at?_some n;have h2:=z196 m (by omega)
  cases r with
  |error e=>exact h2
  |ok tj=>
   obtain⟨b1,b2⟩:=h1;obtain⟨b3,b4⟩:=h2;exact⟨by omega,b4⟩
termination_by structural _ _ _ x=>x
theorem z1cd:∀{l:List Nd} {i:Nat} {r:Res},RowP a l i r→i≤a.length→Bnd a i r
 |_,_,_,.stop _,hi=>⟨Nat.le_refl _,hi⟩
 |_,_,_,.bad _ h,hi=>z2a8 h hi
 |_,_,r,.more _ h m,hi=>by
  obtain⟨b1,b2⟩:=z2a8 h hi;have h2:=z1cd m b2
  cases r with
  |error e=>exact h2
  |ok tj=>
   obtain⟨b3,b4⟩:=h2;exact⟨by omega,b4⟩
termination_by structural _ _ _ x=>x
theorem z2a8:∀{i:Nat} {r:Res},PartP a i r→i≤a.length→Bnd1 a i r
 |_,_,.bad h,hi=>z23e h hi
 |_,_,.bare h _,hi=>z23e h hi
 |_,_,.sign (j:=j) h n,hi=>by
  obtain⟨b1,b2⟩:=z23e h hi
  have:j<a.length:=by
   rcases Nat.lt_or_ge j a.length with h|h
   ·exact h
   ·exfalso
    apply n;unfold z1b1;rw[at?_ge h]
  exact⟨by omega,by omega⟩
termination_by structural _ _ x=>x
theorem z23e:∀{i:Nat} {r:Res},AtomP a i r→i≤a.length→Bnd1 a i r
 |_,_,.none _,hi=>hi
 |_,_,.open_bad h m,hi=>by
  obtain⟨hp,_⟩:=at?_some h;exact z196 m (by omega)
 |_,_,.open_end h m _,hi=>by
  obtain⟨hp,_⟩:=at?_some h;exact(z196 m (by omega)).2
 |_,_,.group h m n,hi=>by
  obtain⟨hp,_⟩:=at?_some h;obtain⟨b1,_⟩:=z196 m (by omega);obtain⟨hp2,_⟩:=at?_some n;exact⟨by omega,by omega⟩
 |_,_,.any h,hi=>by
  obtain⟨hp,_⟩:=at?_some h;exact⟨by omega,by omega⟩
 |_,_,.set_bad h m,hi=>by
  obtain⟨hp,_⟩:=at?_some h;exact setP_bad m (by omega)
 |_,_,.set h m,hi=>by
  obtain⟨hp,_⟩:=at?_some h;obtain⟨b1,b2⟩:=z41c m (by omega);exact⟨by omega,b2⟩
 |_,_,.sl_end h _,hi=>by
  obtain⟨hp,_⟩:=at?_some h;exact hp
 |_,_,.sl h n,hi=>by
  obtain⟨hp,_⟩:=at?_some n;exact⟨by omega,by omega⟩
 |_,_,.bad h _,hi=>hi
 |_,_,.one h _ _,hi=>by
  obtain⟨hp,_⟩:=at?_some h;exact⟨by omega,by omega⟩
termination_by structural _ _ x=>x
end
end
theorem z20f:∀(l:List Nd) (t:Nd),szL (l++[t])=szL l+t.sz+1
 |[],t=>by
  simp only[List.nil_append,szL];omega
 |k::l,t=>by
  rw[List.cons_append,szL,z20f l t,szL];omega
theorem z351(op:Nat):∀l:List Nd,(z1aa op l).sz≤szL l+1
 |[]=>Nat.le_add_left 1 _
 |[t]=>by
  rw[szL,szL];show t.sz≤_;omega
 |_::_::_=>Nat.le_refl _
section
variable {a:zf}
mutual
theorem z40e:∀{l:List Nd} {i:Nat} {r:Res},AltP a l i r→∀t j,r=.ok (t,j)→i≤a.length→t.sz≤szL l+6*(j - i)+(if l=[] then 1 else 3)
 |_,_,_,.bad h,t,j,e,hi=>by cases e
 |l,_,_,.last h n,t,j,e,hi=>by
  have h1:=z3db h _ _ rfl hi;rw[szL] at h1
  cases e
  by_cases hl:l=[]
  ·subst hl
   rw[if_pos rfl];show Nd.sz _≤_;simp only[List.nil_append,z1aa,szL];omega
  ·rw [if_neg hl]
   refine Nat.le_trans (z351 4 _) ?_;rw[z20f];omega
 |l,_,_,.more h n m,t,j,e,hi=>by
  obtain⟨hp,_⟩:=at?_some n;have h1:=z3db h _ _ rfl hi;obtain⟨c1,_⟩:=z1cd h hi;rw[szL] at h1;have h2:=z40e m t j e (by omega);have hb:=z196 m (by omega);subst e;obtain⟨c2,_⟩:=hb;rw[if_neg (by simp),z20f] at h2
  split<;>omega
termination_by structural _ _ _ x=>x
theorem z3db:∀{l:List Nd} {i:Nat} {r:Res},RowP a l i r→∀t j,r=.ok (t,j)→i≤a.length→t.sz≤szL l+6*(j - i)+1
 |l,_,_,.stop h,t,j,e,hi=>by
  cases e
  have:=z351 3 l;omega
 |_,_,_,.bad _ h,t,j,e,hi=>by cases e
 |l,_,_,.more n h m,t,j,e,hi=>by
  obtain⟨b1,b2⟩:=z2a8 h hi;have h1:=partP_sz h _ _ rfl hi;have h2:=z3db m t j e b2;have hb:=z1cd m b2;subst e;obtain⟨c2,_⟩:=hb;rw[z20f] at h2;omega
termination_by structural _ _ _ x=>x
theorem partP_sz:∀{i:Nat} {r:Res},PartP a i r→∀t j,r=.ok (t,j)→i≤a.length→t.sz+3≤6*(j - i)
 |_,_,.bad h,t,j,e,hi=>by cases e
 |_,_,.bare h n,t,j,e,hi=>z452 h t j e hi
 |_,_,.sign h n,t,j,e,hi=>by
  obtain⟨b1,b2⟩:=z23e h hi;have h1:=z452 h _ _ rfl hi
  cases e
  simp only[z38c,Nd.sz,szL];omega
termination_by structural _ _ x=>x
theorem z452:∀{i:Nat} {r:Res},AtomP a i r→∀t j,r=.ok (t,j)→i≤a.length→t.sz+3≤6*(j - i)
 |_,_,.none _,t,j,e,hi=>by cases e
 |_,_,.open_bad h m,t,j,e,hi=>by cases e
 |_,_,.open_end h m _,t,j,e,hi=>by cases e
 |_,_,.group h m n,t,j,e,hi=>by
  obtain⟨hp,_⟩:=at?_some h;have h1:=z40e m _ _ rfl (by omega);obtain⟨b1,_⟩:=z196 m (by omega);rw[if_pos rfl,szL] at h1
  cases e
  omega
 |_,_,.any h,t,j,e,hi=>by
  cases e
  simp only[anyN,Nd.sz,szL];omega
 |_,_,.set_bad h m,t,j,e,hi=>by cases e
 |_,_,.set h m,t,j,e,hi=>by
  obtain⟨hp,_⟩:=at?_some h;obtain⟨b1,b2⟩:=z41c m (by omega)
  cases e
  simp only[Nd.sz,szL];omega
 |_,_,.sl_end h _,t,j,e,hi=>by cases e
 |_,_,.sl h n,t,j,e,hi=>by
  cases e
  simp only[z3c7,Nd.sz,szL];omega
 |_,_,.bad h _,t,j,e,hi=>by cases e
 |_,_,.one h b n,t,j,e,hi=>by
  cases e
  simp only[z3c7,Nd.sz,szL];omega
termination_by structural _ _ x=>x
end
theorem z490{t:Nd}{j:Nat}(h:AltP a [] 0 (.ok (t,j))):t.sz≤6*a.length+1:=by
 have h1:=z40e h t j rfl (Nat.zero_le _);obtain⟨_,b2⟩:=z196 h (Nat.zero_le _);rw[if_pos rfl,szL] at h1;omega
end
section
variable {u:zf}
theorem flat_sz{F:Nat→Res}{u:zf}(hF:∀i t j,F i=.ok (t,j)→t.sz≤3∧i<j){l:List Nd}{i:Nat}{r:Res}(k:FlatP F u l i r):∀t,dropJ r=.ok t→t.sz≤szL l+4*(u.length - i)+1:=by
 induction k with
 |stop s=>
  intro t e
  cases e
  refine Nat.le_trans (z351 3 _) ?_;omega
 |bad s h=>
  intro t e
  cases e
 |more s h m ih=>
  intro t e;have h1:=ih t e;obtain⟨h2,h3⟩:=hF _ _ _ h;rw[z20f] at h1;omega
theorem partL_sz(u:zf):∀i t j,z286 u i=.ok (t,j)→t.sz≤3∧i<j:=by
 intro i t j h;unfold z286 at h
 split at h
 ·cases h
 ·cases h
  exact⟨by simp[z3c7,Nd.sz,szL],by omega⟩
theorem partG_sz(u:zf):∀i t j,z345 u i=.ok (t,j)→t.sz≤3∧i<j:=by
 intro i t j h;unfold z345 at h
 split at h
 ·cases h
 split at h
 ·cases h
  exact⟨by simp[z38c,anyN,Nd.sz,szL],by omega⟩
 split at h
 ·cases h
  exact⟨by simp[anyN,Nd.sz,szL],by omega⟩
 split at h
 ·split at h
  ·cases h
  ·cases h
   exact⟨by simp[z3c7,Nd.sz,szL],by omega⟩
 ·cases h
  exact⟨by simp[z3c7,Nd.sz,szL],by omega⟩
theorem z3d1{k:Int}{u:zf}{t:Nd}(h:TreeP u k (.ok t)):t.sz≤6*u.length+1:=by
 generalize hr:Except.ok t=r at h
 cases h with
 |lit a=>
  have:=flat_sz (partL_sz u) a t hr.symm;rw[szL] at this;omega
 |glob a=>
  have:=flat_sz (partG_sz u) a t hr.symm;rw[szL] at this;omega
 |re_bad a=>cases hr
 |re_end a ne=>cases hr
 |re a=>
  cases hr;exact z490 a
end
theorem z1b8:∀{l:List Nd} {t:Nd},oneL l→z3c8 t→oneL (l++[t])
 |[],_,_,h=>⟨h,trivial⟩
 |_::_,_,⟨a,b⟩,h=>⟨a,z1b8 b h⟩
theorem z2af{op:Nat}(ho:op<5):∀{l:List Nd},oneL l→z3c8 (z1aa op l)
 |[],_=>⟨⟨fun h=>absurd h (by decide),fun h=>absurd h (by decide)⟩,trivial⟩
 |[_],⟨h,_⟩=>h
 |_::_::_,h=>⟨⟨fun _=>List.cons_ne_nil _ _,fun hh=>absurd hh (by omega)⟩,h⟩
theorem z221(c:Nat):z3c8 (z3c7 c):=⟨⟨fun h=>absurd h (by decide),fun h=>absurd h (by decide)⟩,trivial⟩
theorem z348:z3c8 anyN:=⟨⟨fun h=>absurd h (by decide),fun h=>absurd h (by decide)⟩,trivial⟩
theorem z391{op:Nat}{t:Nd}(h:z3c8 t):z3c8 (z38c op [t]):=⟨⟨fun _=>List.cons_ne_nil _ _,fun _=>rfl⟩,h,trivial⟩
section
variable {u:zf}
mutual
theorem z2dd:∀{l:List Nd} {i:Nat} {r:Res},AltP u l i r→oneL l→∀t j,r=.ok (t,j)→z3c8 t
 |_,_,_,.bad _,_,_,_,e=>by cases e
 |_,_,_,.last h _,hl,t,j,e=>by
  cases e
  exact z2af (by decide) (z1b8 hl (z2a4 h trivial _ _ rfl))
 |_,_,_,.more h _ m,hl,t,j,e=>z2dd m (z1b8 hl (z2a4 h trivial _ _ rfl)) t j e
termination_by structural _ _ _ x=>x
theorem z2a4:∀{l:List Nd} {i:Nat} {r:Res},RowP u l i r→oneL l→∀t j,r=.ok (t,j)→z3c8 t
 |_,_,_,.stop _,hl,t,j,e=>by
  cases e
  exact z2af (by decide) hl
 |_,_,_,.bad _ _,_,_,_,e=>by cases e
 |_,_,_,.more _ h m,hl,t,j,e=>z2a4 m (z1b8 hl (z469 h _ _ rfl)) t j e
termination_by structural _ _ _ x=>x
theorem z469:∀{i:Nat} {r:Res},PartP u i r→∀t j,r=.ok (t,j)→z3c8 t
 |_,_,.bad _,_,_,e=>by cases e
 |_,_,.bare h _,t,j,e=>z32c h t j e
 |_,_,.sign h _,t,j,e=>by
  cases e
  exact z391 (z32c h _ _ rfl)
termination_by structural _ _ x=>x
theorem z32c:∀{i:Nat} {r:Res},AtomP u i r→∀t j,r=.ok (t,j)→z3c8 t
 |_,_,.none _,_,_,e=>by cases e
 |_,_,.open_bad _ _,_,_,e=>by cases e
 |_,_,.open_end _ _ _,_,_,e=>by cases e
 |_,_,.group _ m _,t,j,e=>by
  cases e
  exact z2dd m trivial _ _ rfl
 |_,_,.any _,t,j,e=>by
  cases e
  exact z348
 |_,_,.set_bad _ _,_,_,e=>by cases e
 |_,_,.set _ _,t,j,e=>by
  cases e
  exact⟨⟨fun h=>absurd h (by decide),fun h=>absurd h (by decide)⟩,trivial⟩
 |_,_,.sl_end _ _,_,_,e=>by cases e
 |_,_,.sl _ _,t,j,e=>by
  cases e
  exact z221 _
 |_,_,.bad _ _,_,_,e=>by cases e
 |_,_,.one _ _ _,t,j,e=>by
  cases e
  exact z221 _
termination_by structural _ _ x=>x
end
theorem z3b1{F:Nat→Res}(hF:∀i t j,F i=.ok (t,j)→z3c8 t){l:List Nd}{i:Nat}{r:Res}(k:FlatP F u l i r):oneL l→∀t,dropJ r=.ok t→z3c8 t:=by
 induction k with
 |stop s=>
  intro hl t e
  cases e
  exact z2af (by decide) hl
 |bad s h=>
  intro _ t e
  cases e
 |more s h m ih=>
  intro hl t e;exact ih (z1b8 hl (hF _ _ _ h)) t e
theorem z45e{k:Int}{t:Nd}(h:TreeP u k (.ok t)):z3c8 t:=by
 generalize hr:Except.ok t=r at h
 cases h with
 |lit a=>
  refine z3b1 (F:=z286 u) (fun i t j h=>?_) a trivial t hr.symm;unfold z286 at h
  split at h
  ·cases h
  ·cases h
   exact z221 _
 |glob a=>
  refine z3b1 (F:=z345 u) (fun i t j h=>?_) a trivial t hr.symm;unfold z345 at h
  split at h
  ·cases h
  split at h
  ·cases h
   exact z391 z348
  split at h
  ·cases h
   exact z348
  split at h
  ·split at h
   ·cases h
   ·cases h
    exact z221 _
  ·cases h
   exact z221 _
 |re_bad a=>cases hr
 |re_end a ne=>cases hr
 |re a=>
  cases hr;exact z2dd a trivial _ _ rfl
end
def zeroNet:Nt:=⟨false,0,0,List.replicate 64 0,List.replicate 256 0⟩
theorem z244:NtOk zeroNet:=⟨List.length_replicate,List.length_replicate,by decide,by decide,fun x hx=>by rw[List.eq_of_mem_replicate hx];decide,fun x hx=>by rw[List.eq_of_mem_replicate hx];decide⟩
def z385(t:Nd):Nt:={(z42 t zeroNet 0).2.1 with empty:=(z42 t zeroNet 0).1.empty,first:=(z42 t zeroNet 0).1.first,last:=(z42 t zeroNet 0).1.last}
def zde(t:Nd):Nt:=(z385 t).trim
theorem z340(t:Nd):NtOk (z385 t):=by
 have:=zcf t (u:=0) z244;exact⟨this.n.fl,this.n.tl,this.p.f,this.p.l,this.n.fs,this.n.ts⟩
theorem z429(t:Nd):NtOk (zde t):=(z340 t).trim
theorem z381{S:List Nat}{h0 h:AHeap}{rs T:List zd8}(M:Abs.Mem S h0 h rs)(hs:∀y∈T,y∈rs):RowsAt h T:=fun y hy=>⟨(M.row y (hs y hy)).1,(M.row y (hs y hy)).2.1⟩
theorem apart2{S:List Nat}{h0 h:AHeap}{x y:zd8}{rs T:List zd8}(M:Abs.Mem S h0 h (x::y::rs))(hs:∀z∈T,z∈rs):(∀z∈T,z.1 ∉ [x.1,y.1])∧x.1≠y.1:=by
 have ap:=M.apart;rw[List.map_cons,List.map_cons,List.nodup_cons,List.nodup_cons] at ap;refine⟨fun z hz hm=>?_,fun e=>ap.1 (by rw[e];exact List.mem_cons_self)⟩
 rcases List.mem_cons.1 hm with e|hm
 ·exact ap.1 (List.mem_cons_of_mem _ (by rw[←e];exact List.mem_map_of_mem (hs z hz)))
 ·exact ap.2.1 (by rw[←List.mem_singleton.1 hm];exact List.mem_map_of_mem (hs z hz))
set_option maxRecDepth 100000 in
theorem bldBl(b o:Nat):z2d6 Tryd.prog TBl [(0,.ptr b o)]=some [.ptr b o,.int .i64 0]:=by kernel_rfl
section
variable {n d:Nat}{h:AHeap}{u:zf}{k:Int}{t:Nd}{c:List AV}{T:List zd8}{H:AHeap}{e1 q:Int}
set_option maxRecDepth 100000 in
theorem of_ok(hk1:z3c8 t)(hsz:t.sz<100000)(hd:t.sz+2≤d)(hn:18446744073709551620<n)(ht:∀h,zd4 z26 h.ex=false→∃c T h',world n d 36 [.agg [.int .i64 k,z1f u]] h=some (.ret (.tup [.agg c,.agg [.int .i64 0,.int .i64 0]]),h')∧NodeT t c T∧Abs.Mem [] h h' T)(hx:zd4 z26 h.ex=false):
  ∃nb h',world n (d+1) 25 [.agg [.int .i64 k,z1f u]] h=some (.ret (.tup [.ptr nb 0,.int .i64 0]),h')∧Abs.Mem [] h h' [(nb,TNet,netC (zde t))]:=by
 suffices hK:Wp (gcR h (z26e (world n d) n [.int .i64 k,z1f u] h)) fun r h'=>∃nb,r=.ret (.tup [.ptr nb 0,.int .i64 0])∧Abs.Mem [] h h' [(nb,TNet,netC (zde t))] by
  obtain⟨_,h',e,nb,rfl,k2⟩:=hK;rw[←w_nfa_Of] at e;exact⟨nb,h',e,k2⟩
 suffices hK:Wp (z26e (world n d) n [.int .i64 k,z1f u] h) fun r h'=>∃nb,r=.ret (.tup [.ptr nb 0,.int .i64 0])∧Abs.Mem [] h h' [(nb,TNet,netC (zde t))] by
  obtain⟨_,h',e,nb,rfl,k2⟩:=hK;refine y5b ⟨_,h',e,⟨nb,rfl,k2⟩,fun _ hl=>?_⟩
  have h1:AV.lo h.next (.ptr nb 0)=true:=by
   have:(AV.lo h.next (.ptr nb 0)&&(AV.lo h.next (.int .i64 0)&&y1c h.next []))=true:=hl;rw[Bool.and_eq_true] at this;exact this.1
  have h2:=k2.at0.2.2.resolve_left (by simp);have h3:nb<h.next:=by simpa [AV.lo] using h1
  omega
 unfold z26e;have Mx:=Mem.nil [] h;have hxN:∀{h1:AHeap} {rs:List zd8},Abs.Mem [] h h1 rs→zd4 z26 h1.ex=false:=fun M=>by rw[M.ex];exact hx
 repeat(first|((with_reducible apply y17 Mx);rfl)|((with_reducible apply y19 Mx);(rfl);clear Mx;intro _ Mx))
 obtain⟨c,T,H1,e1,kt1,M1⟩:=ht _ (hxN Mx);refine Wp.callN e1 ?_;have M2:=y3e (xs:=[]) (ys:=[]) Mx M1;clear Mx M1;have Mx:=M2;clear M2;simp only[List.nil_append] at Mx
 repeat(first|((with_reducible apply y9 Mx);clear Mx;intro _ Mx)|(with_reducible apply Wp.obind;first|exact z12 _|exact z17d _ _|exact z17c _ _ _)|rw[z10])
 refine y2a Mx kt1.len rfl kt1.one fun h3 M3=>?_;clear Mx;have Mx:=M3;clear M3
 repeat(first|(with_reducible apply Wp.obind;exact z4 _ _)|((with_reducible apply y21 Mx);rfl)|((with_reducible apply y11 Mx);rfl;rfl;(rfl);clear Mx;intro _ Mx)|((with_reducible apply y19 Mx);(rfl);clear Mx;intro _ Mx)|(with_reducible refine Wp.lett ?_)|((with_reducible refine y6 ?_ ?_;apply z1c8);omega)|rw[z10])
 have M4:Abs.Mem [] h _ ((_,TNet,netC zeroNet)::_):=Mx;clear Mx;have Mx:=M4;clear M4
 repeat(first|((with_reducible apply y11 Mx);rfl;rfl;(rfl);clear Mx;intro _ Mx)|((with_reducible apply y9 Mx);clear Mx;intro _ Mx)|(with_reducible apply Wp.obind;exact bldBl _ _))
 refine y3b Mx kt1.len ?_;obtain⟨d2,rfl⟩:∃d2,d=d2+2:=⟨d - 2,by omega⟩;obtain⟨hTn,hne⟩:=apart2 (T:=T) Mx (fun y hy=>by simp[hy]);have rT:=z381 (T:=T) Mx (fun y hy=>by simp[hy]);obtain⟨h5,e5,kb5,kn5,t5⟩:=z423 t (n:=n) (D:=d2+2) hk1 kt1 rT hTn Mx.at0.2.1 Mx.at1.2.1 hne hd (by omega) (by omega) zeroNet 0 _ z244 (by omega) (Tch.refl _ _) Mx.at0.1 Mx.at1.1;refine Wp.callN e5 ?_;clear e5 hTn rT hne;have M5:=y34 (xs:=[]) Mx t5 kb5 kn5;clear Mx;have Mx:=M5;clear M5;simp only[List.nil_append] at Mx
 repeat(first|(with_reducible apply Wp.obind;first|exact z4 _ _|exact z5 _|exact z11 _ _|exact z9 _ _ _)|((with_reducible apply y21 Mx);rfl)|((with_reducible apply y11 Mx);rfl;rfl;(rfl);clear Mx;intro _ Mx)|((with_reducible apply y30 Mx);rfl)|((with_reducible apply Wp.ms2 Mx);exact Nat.le_of_ble_eq_true rfl;rfl;clear Mx;intro _ Mx)|((with_reducible apply y9 Mx);clear Mx;intro _ Mx)|((with_reducible refine Wp.chk ?_ ?_);focus ((repeat' (first|(with_reducible exact rfl)|(with_reducible apply z268)|((with_reducible apply Mem.re0 Mx);kernel_rfl;rfl)));done))|(with_reducible apply Wp.obind;exact z12 _)|rw[z10])
 obtain⟨h6,e6,kn6,t6⟩:=trim_r (n:=n) (d:=d2) (z340 t) hn (h:=_) Mx.at2.1;refine Wp.callN e6 ?_;have M6:=y15 (xs:=[_,_]) Mx t6 kn6;clear Mx;have Mx:=M6;clear M6;simp only[List.cons_append,List.nil_append] at Mx
 repeat(((with_reducible apply y30 Mx);rfl))
 refine Wp.ret ⟨_,rfl,fun x hx=>Mx.row x ?_,List.nodup_cons.2 ⟨List.not_mem_nil,List.nodup_nil⟩,Mx.tch⟩;rw[List.mem_singleton] at hx;rw[hx];exact List.mem_cons_of_mem _ (List.mem_cons_of_mem _ List.mem_cons_self)
end
abbrev TRun:Nat:=93
def stepN(N:Nt)(st:Bool×Nat)(c:Nat):Bool×Nat:=(true,(if st.1=true then N.behind st.2 else N.first)&&&N.ta.getD c 0)
def z132(N:Nt)(st:Bool×Nat):Bool:=if st.1=true then decide (st.2&&&N.last≠0) else N.empty
def z194(N:Nt)(st:Bool×Nat):Bool:=if st.1=true then decide (st.2=0) else !N.empty&&decide (N.first=0)
noncomputable def runC(nb:Nat)(st:Bool×Nat):List AV:=[.ptr nb 0,.bool st.1,.int .u64 (st.2:Int)]
def runN(N:Nt)(st:Bool×Nat)(s:zf):Bool×Nat:=s.foldl (fun st c=>stepN N st c.toNat) st
def z2bc(N:Nt)(s:zf):Bool:=z132 N (runN N (false,0) s)
theorem behF_zero(fo:List Nat):∀(f acc:Nat),behF fo f 0 acc=acc
 |0,_=>rfl
 |_+1,_=>rfl
theorem beh_zero(N:Nt):N.behind 0=0:=behF_zero _ _ _
theorem z4a3(N:Nt)(c:Nat):stepN N (true,0) c=(true,0):=by
 unfold stepN;rw[if_pos rfl,beh_zero,Nat.zero_and]
theorem z3b8{N:Nt}{st:Bool×Nat}(h:z194 N st=true)(c:Nat):z194 N (stepN N st c)=true:=by
 obtain⟨b,m⟩:=st
 cases b with
 |true=>
  have:m=0:=of_decide_eq_true h;subst this;rw[z4a3];rfl
 |false=>
  have h2:(!N.empty&&decide (N.first=0))=true:=h;rw[Bool.and_eq_true,decide_eq_true_eq] at h2;show decide ((N.first&&&_)=0)=true;rw[h2.2,Nat.zero_and];rfl
theorem done_live{N:Nt}{st:Bool×Nat}(h:z132 N st=true):z194 N st=false:=by
 obtain⟨b,m⟩:=st
 cases b with
 |true=>
  have h2:m&&&N.last≠0:=of_decide_eq_true h;show decide (m=0)=false;rw[decide_eq_false_iff_not];intro e;rw[e,Nat.zero_and] at h2;exact h2 rfl
 |false=>
  have h2:N.empty=true:=h;show (!N.empty&&_)=false;rw[h2];rfl
theorem z302{N:Nt}(k:NtOk N)(st:Bool×Nat)(c:Nat):(stepN N st c).2 <18446744073709551616:=by
 show (if st.1=true then N.behind st.2 else N.first)&&&_<_;refine zac ?_
 split
 ·exact N.behind_small k _
 ·exact k.f
section
variable {N:Nt}{n d nb rb:Nat}{h:AHeap}{Q:ARes→AHeap→Prop}{st:Bool×Nat}
set_option maxRecDepth 100000 in
theorem eqRun(b o:Nat)(h:AHeap):zf6 Tryd.prog h .eql 120 true (some (.ptr b o)) (some AV.nilp)=some (.val (.bool false),h):=by kernel_rfl
set_option maxRecDepth 100000 in
theorem eqNet(b o:Nat)(h:AHeap):zf6 Tryd.prog h .eql 47 true (some (.ptr b o)) (some AV.nilp)=some (.val (.bool false),h):=by kernel_rfl
set_option maxRecDepth 100000 in
theorem bldRun(b o:Nat):z2d6 Tryd.prog TRun [(0,.ptr b o)]=some [.ptr b o,.bool false,.int .u64 0]:=by kernel_rfl
theorem none_w(kr:RowH h rb TRun (runC nb st)):world n (d+1) 61 [.ptr rb 0] h=some (.ret (.bool false),h):=by
 apply Wp.eq;rw[z2e3];unfold zff;have c1:z7 h (.ptr rb (0+0))=some (.ptr nb 0):=y5 kr rfl
 repeat(with_reducible first|refine y7 (fun _ _=>?_)|(apply Wp.obind;first|exact c1|exact z5 _|exact z11 _ _|exact z9 _ _ _)|(refine y6 ?_ ?_;rfl)|(apply Wp.outK;first|exact eqRun _ _ _|exact eqNet _ _ _)|refine yd (by assumption) ?_)
 exact Wp.ret ⟨rfl,rfl⟩
theorem done_w(hN:NtOk N)(hs:st.2<18446744073709551616)(kr:RowH h rb TRun (runC nb st))(kn:RowH h nb TNet (netC N)):world n (d+2) 41 [.ptr rb 0] h=some (.ret (.bool (z132 N st)),h):=by
 apply Wp.eq;rw[z2e5];unfold z101;have e0:=none_w (n:=n) (d:=d) kr;have c1:z7 h (.ptr rb (0+0))=some (.ptr nb 0):=y5 kr rfl;have c2:z7 h (.ptr rb (0+1))=some (.bool st.1):=y5 kr rfl;have c3:z7 h (.ptr rb (0+2))=some (.int .u64 (st.2:Int)):=y5 kr rfl;have c4:z7 h (.ptr nb (0+0))=some (.bool N.empty):=y5 kn rfl;have c5:z7 h (.ptr nb (0+2))=some (.int .u64 (N.last:Int)):=y5 kn rfl;have e1:=z111 hs hN.l;unfold z132
 repeat(with_reducible first|refine Wp.lett ?_|(apply Wp.obind;first|exact c2|exact z5 _|exact z11 _ _|exact z9 _ _ _)|(refine y6 ?_ ?_;rfl)|(apply Wp.callN;exact e0))
 cases hb:st.1 with
 |false=>
  repeat(with_reducible first|(apply Wp.obind;first|exact c1|exact c4|exact z5 _|exact z11 _ _|exact z9 _ _ _)|(refine y8 ?_ ?_;exact Bool.not_false))
  exact Wp.ret ⟨rfl,rfl⟩
 |true=>
  repeat(with_reducible first|refine Wp.lett ?_|(apply Wp.obind;first|exact c1|exact c3|exact c5|exact z4 _ _|exact z11 _ _|exact z9 _ _ _)|(refine y6 ?_ ?_;exact Bool.not_true))
  rw[e1];refine Wp.ret ⟨?_,rfl⟩
  by_cases hz:st.2&&&N.last=0
  ·rw [hz]
   rfl
  ·rw[if_pos rfl,decide_eq_true hz,show (((st.2&&&N.last:Nat):Int) != 0)=true from z23c (by omega)]
theorem dead_w(kr:RowH h rb TRun (runC nb st))(kn:RowH h nb TNet (netC N)):world n (d+2) 40 [.ptr rb 0] h=some (.ret (.bool (z194 N st)),h):=by
 apply Wp.eq;rw[z2e6];unfold z102;have e0:=none_w (n:=n) (d:=d) kr;have c1:z7 h (.ptr rb (0+0))=some (.ptr nb 0):=y5 kr rfl;have c2:z7 h (.ptr rb (0+1))=some (.bool st.1):=y5 kr rfl;have c3:z7 h (.ptr rb (0+2))=some (.int .u64 (st.2:Int)):=y5 kr rfl;have c4:z7 h (.ptr nb (0+0))=some (.bool N.empty):=y5 kn rfl;have c5:z7 h (.ptr nb (0+1))=some (.int .u64 (N.first:Int)):=y5 kn rfl
 have hz:∀x:Nat,(((x:Nat):Int) == 0)=decide (x=0):=fun x=>by
  by_cases h0:x=0
  ·rw [h0]
   rfl
  ·rw [decide_eq_false h0]
   exact z90 (by omega)
 unfold z194
 repeat(with_reducible first|refine Wp.lett ?_|(apply Wp.obind;first|exact c2|exact z5 _|exact z11 _ _|exact z9 _ _ _)|(refine y6 ?_ ?_;rfl)|(apply Wp.callN;exact e0))
 cases hb:st.1 with
 |false=>
  cases he:N.empty with
  |true=>
   rw[he] at c4
   repeat(with_reducible first|refine y7 (fun _ _=>?_)|refine Wp.lett ?_|(apply Wp.obind;first|exact c1|exact c4|exact z5 _|exact z11 _ _|exact z9 _ _ _)|(refine y8 ?_ ?_;exact Bool.not_false)|(refine y6 ?_ ?_;exact Bool.not_true)|refine yd (by assumption) ?_)
   exact Wp.ret ⟨rfl,rfl⟩
  |false=>
   rw[he] at c4
   repeat(with_reducible first|refine y7 (fun _ _=>?_)|refine Wp.lett ?_|(apply Wp.obind;first|exact c1|exact c4|exact c5|exact z4 _ _|exact z5 _|exact z11 _ _|exact z9 _ _ _)|(refine y8 ?_ ?_;exact Bool.not_false)|refine yd (by assumption) ?_)
   rw[hz];exact Wp.ret ⟨rfl,rfl⟩
 |true=>
  repeat(with_reducible first|refine Wp.lett ?_|(apply Wp.obind;first|exact c3|exact z4 _ _|exact z11 _ _|exact z9 _ _ _)|(refine y6 ?_ ?_;exact Bool.not_true))
  rw[hz];exact Wp.ret ⟨rfl,rfl⟩
theorem step_r(hT:HasTz h)(hN:NtOk N)(hs:st.2<18446744073709551616)(hn:18446744073709551616<n)(hne:rb≠nb){c:Nat}(hc:c<256)(kr:RowH h rb TRun (runC nb st))(kn:RowH h nb TNet (netC N))(hnb:nb<h.next):∃h',world n (d+3) 39 [.ptr rb 0,.int .u8 (c:Int)] h=some (.ret (.tup []),h')∧RowH h' rb TRun (runC nb (stepN N st c))∧Tch [rb] h h':=by
 apply Wp.ex;rw[z2e4];unfold z100;have e0:=none_w (n:=n) (d:=d+1) kr;have c1:z7 h (.ptr rb (0+0))=some (.ptr nb 0):=y5 kr rfl;have c2:z7 h (.ptr rb (0+1))=some (.bool st.1):=y5 kr rfl;have c3:z7 h (.ptr rb (0+2))=some (.int .u64 (st.2:Int)):=y5 kr rfl;have c5:z7 h (.ptr nb (0+1))=some (.int .u64 (N.first:Int)):=y5 kn rfl;have e1:=beh_w (n:=n) (d:=d) hT hN kn hs hn;have e3:=z163 (b:=nb) (o:=0+67) hc
 have fin:∀(m:Nat),m<18446744073709551616→(stepN N st c).2=m&&&N.ta.getD c 0→Wp (obind (z15 h 1 [.bool true] (.ptr rb (0+1))) fun h_25=>
   obind (z7c (.ptr rb 0)) fun t33=>obind (z4c 0 t33) fun t34=>obind (z7 h_25 t34) fun v35=>obind (z7c v35) fun t37=>obind (z4c 67 t37) fun t38=>
   obind (z316 256 1 t38 (c:Int)) fun t39=>obind (z7 h_25 t39) fun v40=>obind (avInt .u64 v40) fun t40=>lett (z3c3 .u64 (m:Int) t40) fun (t41:Int)=>
   obind (z7c (.ptr rb 0)) fun t42=>obind (z4c 2 t42) fun t43=>obind (z15 h_25 1 [.int .u64 t41] t43) fun h_38=>some (.ret (.tup []),h_38))
   fun r h'=>r=.ret (.tup [])∧RowH h' rb TRun (runC nb (stepN N st c))∧Tch [rb] h h':=by
  intro m hm he;refine Wp.st1 kr (by show 1<3;decide) rfl fun h1 k1 t1 _=>?_;have kn1:=kn.tch t1 hnb (by simpa using fun e=>hne e.symm);have d1:z7 h1 (.ptr rb (0+0))=some (.ptr nb 0):=y5 k1 rfl;have d2:z7 h1 (.ptr nb (0+67+c))=some (.int .u64 (N.ta.getD c 0:Int)):=y5 kn1 (by rw[Nat.zero_add,net_ta hN hc])
  repeat(with_reducible first|refine Wp.lett ?_|(apply Wp.obind;first|exact d1|exact d2|exact e3|exact z4 _ _|exact z11 _ _|exact z9 _ _ _))
  rw[z111 hm (zc7 hN.ts c), ←he];refine Wp.st1 k1 (by show 2<3;decide) rfl fun h2 k2 t2 _=>?_;exact Wp.ret ⟨rfl,k2,t1.trans t2⟩
 repeat(with_reducible first|refine y7 (fun _ _=>?_)|(apply Wp.obind;first|exact c1|exact c2|exact c5|exact z4 _ _|exact z5 _|exact z11 _ _|exact z9 _ _ _)|(refine y6 ?_ ?_;rfl)|(apply Wp.callN;exact e0))
 cases hb:st.1 with
 |true=>
  repeat(with_reducible first|(apply Wp.obind;first|exact c1|exact c3|exact z4 _ _|exact z11 _ _|exact z9 _ _ _)|(refine y8 ?_ ?_;rfl)|(apply Wp.callN;exact e1)|refine yd (by assumption) ?_)
  exact fin (N.behind st.2) (N.behind_small hN _) (by unfold stepN;rw[if_pos hb])
 |false=>
  repeat(with_reducible first|(apply Wp.obind;first|exact z11 _ _|exact z9 _ _ _)|(refine y6 ?_ ?_;rfl)|refine yd (by assumption) ?_)
  exact fin N.first hN.f (by unfold stepN;rw[if_neg (by rw[hb];decide)])
end
section
variable {N:Nt}{n d nb rb:Nat}{h h0:AHeap}{Q:ARes→AHeap→Prop}{st:Bool×Nat}{S:List Nat}{rs:List zd8}
theorem begin_m(M:Abs.Mem S h0 h rs):∃h',world n (d+1) 65 [.ptr nb 0] h=some (.ret (.ptr h.next 0),h')∧Abs.Mem S h0 h' ((h.next,TRun,runC nb (false,0))::rs):=by
 apply Wp.ex;rw[z298];unfold zdd;have Mx:=M
 repeat(first|(with_reducible apply Wp.obind;exact z5 _)|((with_reducible apply y19 Mx);(rfl);clear Mx;intro _ Mx)|(with_reducible first|(apply Wp.obind;exact bldRun _ _)|(refine y6 ?_ ?_;rfl)|(apply Wp.outK;exact eqNet _ _ _)))
 exact Wp.ret ⟨rfl,Mx⟩
theorem byte_lt{s:zf}{i:Nat}(hi:i<s.length):(s[i]).toNat <256:=(s[i]).toNat_lt
end
mutual
def z164:Nd→Bool
 | .mk op _ ks=>if op=1∨op=5∨op=7 then true else if op=3∨op=6 then allN ks else if op=4 then z3d3 ks else false
def allN:List Nd→Bool
 |[]=>true
 |k::ks=>z164 k&&allN ks
def z3d3:List Nd→Bool
 |[]=>false
 |k::ks=>z164 k||z3d3 ks
end
inductive KidB (fid:Nat) (h:AHeap) (D n:Nat):List (List AV)→List Nd→Prop
 |nil:KidB fid h D n [] []
 |cons {c:List AV} {t:Nd} {l:List (List AV)} {ks:List Nd} (e:∀h',Tch [] h h'→world n D fid [.agg c] h'=some (.ret (.bool (z164 t)),h')) (k:KidB fid h D n l ks):KidB fid h D n (c::l) (t::ks)
section
variable {h0 H:AHeap}{n D:Nat}{kv:AV}{K:List (List AV)}{T:List zd8}{Q:ARes→AHeap→Prop}
theorem z38a{k27:AHeap→R}(g:GrowT z26 6 K kv T)(r:RowsAt h0 T)(hK:∀c∈K,c.length=6∧c.all AV.one=true)(hn:K.length<1000000):∀(l:List (List AV)) (ks:List Nd) (i f:Nat) (H:AHeap),KidB 64 h0 D n l ks→K.drop i=l→K.length - i<f→Tch [] h0 H→
  (allN ks=true→∀H',Tch [] h0 H'→Wp (k27 H') Q)→(allN ks=false→∀H',Tch [] h0 H'→Q (.ret (.bool false)) H')→Wp (z92 (world n D) kv (K.length:Int) k27 f (i:Int) H) Q
 |_,_,_,0,_,_,_,hf,_,_,_=>by omega
 |l,ks,i,f+1,H,kk,d1,hf,ht,hk,hq=>by
  rw[z15c];unfold zdb
  cases kk with
  |nil=>
   have:=drop_nil d1
   repeat(first|(with_reducible refine Wp.lett ?_)|((with_reducible refine y6 ?_ ?_;apply decide_eq_false);omega))
   exact hk rfl H ht
  |cons e k=>
   rename_i c t m ks;obtain⟨hi1,hc,d2⟩:=z153 d1;obtain⟨p1,_,x1,y1⟩:=(Slc.keep g r ht).row hi1;obtain⟨l6,o6⟩:=hK _ (List.getElem_mem hi1);rw[hc] at y1 l6 o6;have Mx:=Mem.nil [] H
   repeat(first|((with_reducible apply y9 Mx);clear Mx;intro _ Mx)|(with_reducible first|refine Wp.lett ?_|(apply Wp.obind;first|exact x1|exact y1))|((with_reducible refine y8 ?_ ?_;apply decide_eq_true);omega)|rw[z10])
   refine y11 Mx l6 rfl o6 fun h2 M2=>?_;refine y17 M2 l6 ?_;have es:=e h2 (ht.trans M2.tch);have ei:(i:Int)+1=((i+1:Nat):Int):=by omega
   cases hb:z164 t with
   |true=>
    rw[hb] at es
    repeat(first|((with_reducible refine ye ?_ ?_ ?_);omega;omega)|(with_reducible first|refine Wp.lett ?_|(apply Wp.obind;exact z5 _)|(refine y6 ?_ ?_;exact Bool.not_true)|(apply Wp.callN;exact es)))
    rw[ei];refine z38a g r hK hn m ks (i+1) f h2 k d2 (by omega) (ht.trans M2.tch) (fun h=>hk ?_) fun h=>hq ?_
    ·rw[allN,hb,h];rfl
    ·rw[allN,hb,h];rfl
   |false=>
    rw[hb] at es
    repeat(with_reducible first|refine Wp.lett ?_|(apply Wp.obind;exact z5 _)|(refine y8 ?_ ?_;exact Bool.not_false)|(apply Wp.callN;exact es))
    exact Wp.ret (hq (by rw[allN,hb];rfl) _ (ht.trans M2.tch))
theorem z306{k62:AHeap→R}(g:GrowT z26 6 K kv T)(r:RowsAt h0 T)(hK:∀c∈K,c.length=6∧c.all AV.one=true)(hn:K.length<1000000):∀(l:List (List AV)) (ks:List Nd) (i f:Nat) (H:AHeap),KidB 64 h0 D n l ks→K.drop i=l→K.length - i<f→Tch [] h0 H→
  (z3d3 ks=false→∀H',Tch [] h0 H'→Wp (k62 H') Q)→(z3d3 ks=true→∀H',Tch [] h0 H'→Q (.ret (.bool true)) H')→Wp (zbc (world n D) kv (K.length:Int) k62 f (i:Int) H) Q
 |_,_,_,0,_,_,_,hf,_,_,_=>by omega
 |l,ks,i,f+1,H,kk,d1,hf,ht,hk,hq=>by
  rw[z15b];unfold zda
  cases kk with
  |nil=>
   have:=drop_nil d1
   repeat(first|(with_reducible refine Wp.lett ?_)|((with_reducible refine y6 ?_ ?_;apply decide_eq_false);omega))
   exact hk rfl H ht
  |cons e k=>
   rename_i c t m ks;obtain⟨hi1,hc,d2⟩:=z153 d1;obtain⟨p1,_,x1,y1⟩:=(Slc.keep g r ht).row hi1;obtain⟨l6,o6⟩:=hK _ (List.getElem_mem hi1);rw[hc] at y1 l6 o6;have Mx:=Mem.nil [] H
   repeat(first|((with_reducible apply y9 Mx);clear Mx;intro _ Mx)|(with_reducible first|refine Wp.lett ?_|(apply Wp.obind;first|exact x1|exact y1))|((with_reducible refine y8 ?_ ?_;apply decide_eq_true);omega)|rw[z10])
   refine y11 Mx l6 rfl o6 fun h2 M2=>?_;refine y17 M2 l6 ?_;have es:=e h2 (ht.trans M2.tch);have ei:(i:Int)+1=((i+1:Nat):Int):=by omega
   cases hb:z164 t with
   |false=>
    rw[hb] at es
    repeat(first|((with_reducible refine ye ?_ ?_ ?_);omega;omega)|(with_reducible first|(apply Wp.obind;exact z5 _)|(refine y6 ?_ ?_;rfl)|(apply Wp.callN;exact es)))
    rw[ei];refine z306 g r hK hn m ks (i+1) f h2 k d2 (by omega) (ht.trans M2.tch) (fun h=>hk ?_) fun h=>hq ?_
    ·rw[z3d3,hb,h];rfl
    ·rw[z3d3,hb,h];rfl
   |true=>
    rw[hb] at es
    repeat(with_reducible first|(apply Wp.obind;exact z5 _)|(refine y8 ?_ ?_;rfl)|(apply Wp.callN;exact es))
    exact Wp.ret (hq (by rw[z3d3,hb];rfl) _ (ht.trans M2.tch))
end
mutual
theorem z38b:∀(t:Nd) {c:List AV} {T:List zd8} {D n:Nat} {h:AHeap},NodeT t c T→RowsAt h T→t.sz≤D→t.sz<n→t.sz<1000000→world n D 64 [.agg c] h=some (.ret (.bool (z164 t)),h)
 | .mk op w ks,_,_,0,n,h,_,_,hD,_,_=>by
  rw[Nd.sz] at hD;omega
 | .mk op w ks,c,T,D+1,n,h,k1,r1,hD,hn,hN=>by
  rw[Nd.sz] at hD hn hN;have hsl:=z3d2 ks
  cases k1 with
  |mk hw g1 ks1=>
   rename_i kc1 kv1 T01 T11;have kk:=z308 ks (D:=D) (n:=n) ks1 r1.right (by omega) (by omega) (by omega);have hl1:=ks1.len;have hK:∀c∈kc1,c.length=6∧c.all AV.one=true:=g1.1;obtain⟨a,b,c,d,rfl⟩:=z412 hw;apply Wp.eq;rw[z295];refine y4c ?_
   suffices hK:Wp (zb2 (world n D) n (zae op [a,b,c,d] kv1) h) fun r h'=>r=.ret (.bool (z164 (.mk op [a,b,c,d] ks)))∧Tch [] h h' from hK.mono fun r h' ⟨e,t⟩=>⟨t.above,by rw[e];rfl,e,rfl⟩
   unfold zb2;have Mx:=Mem.nil [] h;have o1:=za2 (op:=op) (w:=[a,b,c,d]) g1.one.1;have len1:=g1.len;refine y19 Mx o1 fun h1 M1=>?_;clear Mx;have Mx:=M1;clear M1;rw[z164]
   by_cases h157:op=1∨op=5∨op=7
   ·rw [if_pos h157]
    rcases h157 with rfl|rfl|rfl
    ·repeat (first | (with_reducible apply Wp.obind; first | exact z4 _ _ | exact z9 _ _ _) | ((with_reducible apply y21 Mx); rfl) | (with_reducible first | refine y7 (fun _ _ => ?_) | refine Wp.lett ?_) | ((with_reducible refine y8 ?_ ?_); first | (with_reducible rfl) | ((with_reducible apply z83); omega)) | (with_reducible refine yd (by assumption) ?_))
     exact Wp.ret ⟨rfl,Mx.tch⟩
    ·repeat (first | (with_reducible apply Wp.obind; first | exact z4 _ _ | exact z9 _ _ _) | ((with_reducible apply y21 Mx); rfl) | (with_reducible first | refine y7 (fun _ _ => ?_) | refine Wp.lett ?_) | ((with_reducible refine y8 ?_ ?_); first | (with_reducible rfl) | ((with_reducible apply z83); omega)) | ((with_reducible refine y6 ?_ ?_; apply z90); omega) | (with_reducible refine yd (by assumption) ?_))
     exact Wp.ret ⟨rfl,Mx.tch⟩
    ·repeat (first | (with_reducible apply Wp.obind; first | exact z4 _ _ | exact z9 _ _ _) | ((with_reducible apply y21 Mx); rfl) | (with_reducible first | refine y7 (fun _ _ => ?_) | refine Wp.lett ?_) | ((with_reducible refine y8 ?_ ?_; apply z83); omega) | ((with_reducible refine y6 ?_ ?_; apply z90); omega) | (with_reducible refine yd (by assumption) ?_))
     exact Wp.ret ⟨rfl,Mx.tch⟩
   rw[if_neg h157]
   by_cases h36:op=3∨op=6
   ·rw [if_pos h36]
    have fin:∀{k27:AHeap→R},(k27=fun h_28=>some (.ret (.bool true),h_28))→Wp (z92 (world n D) kv1 (kc1.length:Int) k27 n 0 h1) fun r h'=>r=.ret (.bool (allN ks))∧Tch [] h h':=by
     intro k27 ek;refine z38a (h0:=h) g1 r1.left hK (by omega) kc1 ks 0 n h1 kk List.drop_zero (by omega) Mx.tch (fun ha H' t=>?_) fun ha H' t=>?_
     ·rw [ek, ha]
      exact Wp.ret ⟨rfl,t⟩
     ·rw [ha]
      exact⟨rfl,t⟩
    rcases h36 with rfl|rfl
    ·repeat (first | (with_reducible apply Wp.obind; first | exact z4 _ _ | exact z9 _ _ _) | ((with_reducible apply y21 Mx); rfl) | (with_reducible first | (first | refine yf (fun _ _ => ?_) | refine y7 (fun _ _ => ?_)) | refine Wp.lett ?_ | (apply Wp.obind; exact len1)) | ((with_reducible refine y8 ?_ ?_; apply z83); omega) | ((with_reducible refine y6 ?_ ?_; apply z90); omega) | (with_reducible refine yd (by assumption) ?_))
     exact fin (by assumption)
    ·repeat (first | (with_reducible apply Wp.obind; first | exact z4 _ _ | exact z9 _ _ _) | ((with_reducible apply y21 Mx); rfl) | (with_reducible first | (first | refine yf (fun _ _ => ?_) | refine y7 (fun _ _ => ?_)) | refine Wp.lett ?_ | (apply Wp.obind; exact len1)) | ((with_reducible refine y8 ?_ ?_); first | (with_reducible rfl) | ((with_reducible apply z83); omega)) | ((with_reducible refine y6 ?_ ?_; apply z90); omega) | (with_reducible refine yd (by assumption) ?_))
     exact fin (by assumption)
   rw[if_neg h36]
   by_cases h4:op=4
   ·rw [if_pos h4]
    subst h4
    repeat(first|(with_reducible apply Wp.obind;first|exact z4 _ _|exact z9 _ _ _)|((with_reducible apply y21 Mx);rfl)|(with_reducible first|(first|refine yf (fun _ _=>?_)|refine y7 (fun _ _=>?_))|refine Wp.lett ?_|(apply Wp.obind;exact len1))|((with_reducible refine y8 ?_ ?_;apply z83);omega)|((with_reducible refine y6 ?_ ?_;apply z90);omega)|(with_reducible refine yd (by assumption) ?_))
    refine z306 (h0:=h) g1 r1.left hK (by omega) kc1 ks 0 n h1 kk List.drop_zero (by omega) Mx.tch (fun ha H' t=>?_) fun ha H' t=>?_
    ·repeat ((with_reducible refine y24 (by assumption) ?_))
     rw[ha];exact Wp.ret ⟨rfl,t⟩
    ·rw [ha]
     exact⟨rfl,t⟩
   ·rw [if_neg h4]
    repeat(first|(with_reducible apply Wp.obind;first|exact z4 _ _|exact z9 _ _ _)|((with_reducible apply y21 Mx);rfl)|(with_reducible first|(first|refine yf (fun _ _=>?_)|refine y7 (fun _ _=>?_))|refine Wp.lett ?_)|((with_reducible refine y6 ?_ ?_;apply z90);omega)|(with_reducible first|refine y24 (by assumption) ?_|refine yd (by assumption) ?_))
    exact Wp.ret ⟨rfl,Mx.tch⟩
theorem z308:∀(ks:List Nd) {k1:List (List AV)} {T:List zd8} {D n:Nat} {h:AHeap},KidsT ks k1 T→RowsAt h T→szL ks≤D→szL ks<n→szL ks<1000000→KidB 64 h D n k1 ks
 |[],_,_,_,_,_,k1,_,_,_,_=>by
  cases k1
  exact .nil
 |t::ks,_,_,D,n,h,k1,r1,hD,hn,hN=>by
  rw[szL] at hD hn hN
  cases k1 with
  |cons a1 b1=>exact .cons (fun h' th=>z38b t a1 (r1.left.keep th) (by omega) (by omega) (by omega)) (z308 ks b1 r1.right (by omega) (by omega) (by omega))
end
theorem empty_w{k:Int}{u:zf}{t:Nd}{n D:Nat}(hn:1000<n)(hD:1000≤D)(hsz:t.sz<900)(ht:∀h,zd4 z26 h.ex=false→∃c T h',world n D 36 [.agg [.int .i64 k,z1f u]] h=some (.ret (.tup [.agg c,.agg [.int .i64 0,.int .i64 0]]),h')∧NodeT t c T∧Abs.Mem [] h h' T){h:AHeap}(hx:zd4 z26 h.ex=false):world n (D+1) 44 [.agg [.int .i64 k,z1f u]] h=some (.ret (.bool (z164 t)),h):=by
 have hxN:∀{h1:AHeap} {rs:List zd8},Abs.Mem [] h h1 rs→zd4 z26 h1.ex=false:=fun M=>by rw[M.ex];exact hx
 apply Wp.eq;rw[z296];refine y4c ?_
 suffices hK:Wp (zb3 (world n D) n [.int .i64 k,z1f u] h) fun r h'=>r=.ret (.bool (z164 t))∧Tch [] h h' from hK.mono fun r h' ⟨e,t⟩=>⟨t.above,by rw[e];rfl,e,rfl⟩
 unfold zb3;have Mx:=Mem.nil [] h
 repeat(first|((with_reducible apply y17 Mx);rfl)|((with_reducible apply y19 Mx);(rfl);clear Mx;intro _ Mx))
 obtain⟨c1,T1,H1,e1,kt1,M1⟩:=ht _ (hxN Mx);refine Wp.callN e1 ?_;have M2:=y3e (xs:=[]) (ys:=[]) Mx M1;refine Wp.obind (z17d _ _) (Wp.obind (z12 _) (Wp.obind (z17c _ _ _) (Wp.obind (z12 _) ?_)));refine y9 M2 fun h27 M3=>y9 M3 fun h29 M4=>?_;rw[z10,z10];refine y2a M4 kt1.len rfl kt1.one fun h31 M5=>y11 M5 rfl rfl rfl fun h33 M6=>?_;have r1:RowsAt h33 T1:=z381 M6 (fun y hy=>by simp[hy]);have f1:z16 h33 6 (.ptr H1.next 0)=some c1:=y12 M6.at1.1 kt1.len;have es:=z38b (D:=D) (n:=n) (h:=h33) t kt1 r1 (by omega) (by omega) (by omega);clear Mx;have Mx:=M6;clear M1 M2 M3 M4 M5 M6
 repeat(first|(with_reducible apply Wp.obind;first|exact z4 _ _|exact z5 _)|((with_reducible apply y21 Mx);rfl)|(with_reducible first|refine y7 (fun _ _=>?_)|refine Wp.lett ?_|(apply Wp.obind;exact f1))|((with_reducible refine y8 ?_ ?_;apply z83);omega)|(with_reducible first|(apply Wp.callN;exact es)|refine yd (by assumption) ?_))
 exact Wp.ret ⟨rfl,Mx.tch⟩
open Go.RowKit Abs
abbrev z20a:Nat:=123
abbrev z1ac:Nat:=95
abbrev z3ca:Nat:=97
abbrev z19d:=Nat×(Bool×Nat)×Nat
noncomputable def z2ff(x:z19d):List AV:=[.ptr x.1 0,.int .i64 (x.2.2:Int)]
noncomputable def z9c:List z19d→List AV
 |[]=>[]
 |x::l=>z2ff x++z9c l
theorem z9f:∀l:List z19d,(z9c l).length=2*l.length
 |[]=>rfl
 |x::l=>by
  have:=z9f l;rw[z9c,List.length_append,List.length_cons,this];show 2+_=_;omega
theorem z172:∀a b:List z19d,z9c (a++b)=z9c a++z9c b
 |[],_=>rfl
 |x::a,b=>by rw[List.cons_append,z9c,z9c,z172 a b,List.append_assoc]
def RunsAt(h:AHeap)(nb:Nat)(l:List z19d):Prop:=∀x∈l,RowH h x.1 TRun (runC nb x.2.1)∧x.1<h.next∧x.2.1.2<18446744073709551616
theorem RunsAt.tch{S:List Nat}{h h':AHeap}{nb:Nat}{l:List z19d}(k:RunsAt h nb l)(t:Tch S h h')(hd:∀x∈l,x.1 ∉ S):RunsAt h' nb l:=fun x hx=>
 ⟨(k x hx).1.tch t (k x hx).2.1 (hd x hx),Nat.lt_of_lt_of_le (k x hx).2.1 t.1,(k x hx).2.2⟩
def VAt(h:AHeap)(v:AV)(A:List AV)(m:Nat):Prop:=(v=.nsl∧A=[]∧m=0)∨∃c rest,v=.sl c 0 m 2∧A.length=2*m∧RowH h c z20a (A++rest)∧c<h.next
def zd7:AV→List Nat
 | .sl c _ _ _=>[c]
 |_=>[]
theorem VAt.tch{S:List Nat}{h h':AHeap}{v:AV}{A:List AV}{m:Nat}(k:VAt h v A m)(t:Tch S h h')(hd:∀b∈zd7 v,b ∉ S):VAt h' v A m:=by
 rcases k with k|⟨c,rest,rfl,h1,h2,h3⟩
 ·exact .inl k
 ·exact .inr ⟨c,rest,rfl,h1,h2.tch t h3 (hd c (List.mem_singleton.2 rfl)),Nat.lt_of_lt_of_le h3 t.1⟩
theorem VAt.one{h:AHeap}{v:AV}{A:List AV}{m:Nat}(k:VAt h v A m):v.one=true∧AV.cells v=[v]:=by
 rcases k with⟨rfl,_⟩|⟨c,rest,rfl,_⟩<;>exact⟨rfl,rfl⟩
theorem VAt.lt{h:AHeap}{v:AV}{A:List AV}{m:Nat}(k:VAt h v A m):∀b∈zd7 v,b<h.next:=by
 rcases k with⟨rfl,_⟩|⟨c,rest,rfl,_,_,h3⟩
 ·exact fun b hb=>nomatch hb
 ·intro b hb
  rw[List.mem_singleton.1 hb];exact h3
theorem fitWay:fitB Tryd.prog z20a 16=true:=by kernel_rfl
theorem VAt.push{h:AHeap}{v:AV}{A r:List AV}{m b1:Nat}(k:VAt h v A m)(kr:RowH h b1 z20a r)(hr:r.length=2)(hr1:r.all AV.one=true)(hm:m<1000000)(hx:zd4 z20a h.ex=false):
  ∃h',z76 Tryd.prog h z1ac z1ac v (.sl b1 0 1 2)=some (.val (.sl h.next 0 (m+1) 2),h')∧RowH h' h.next z20a (A++r)∧h.next<h'.next∧Tch (zd7 v) h h':=by
 have he:Abs.elemOf Tryd.prog z1ac=some z20a:=by kernel_rfl
 have hu:z26d Tryd.prog z1ac=true:=by kernel_rfl
 have hsz:Tryd.prog.cellsOf z20a=2:=by kernel_rfl
 rcases k with⟨rfl,rfl,rfl⟩|⟨c,rest,rfl,h1,h2,h3⟩
 ·have a1 := z267 (P := Tryd.prog) (h := h) (t := z1ac) (u := z1ac) (n := 0) (x := .sl b1 0 1 2) he hu hsz rfl (z1c7 kr hr) (z11f fitWay (by omega) (by omega)) hr1 hx
  exact⟨_,a1,RowH.new _ _ _,Nat.lt_succ_self _,Tch.newH _ _ _ _⟩
 ·have a1 := z209 (P := Tryd.prog) (h := h) (t := z1ac) (u := z1ac) (b := c) (o := 0) (m := m) (n := 0) (x := .sl b1 0 1 2) (cs := A) he hu hsz rfl (z1c7 kr hr) (z11f fitWay (by omega) (by omega)) hr1 hx (by
   have:=h2.part (o:=0) (n:=A.length) (by rw[List.length_append];omega);rw[List.drop_zero,List.take_left' rfl] at this;rw[show m*2=A.length by omega];exact this) h2.type
  refine⟨_,a1,RowH.new (h.put c .dead) z20a (A++r),Nat.lt_succ_self _,?_⟩;exact(Tch.put (S:=[c]) (.inl (List.mem_singleton.2 rfl)) _).trans (Tch.newH _ _ _ _)
theorem z419{P:Program}{h:AHeap}{t e:TypeId}{b m sz k:Nat}{k1:IntKind}(he:Abs.elemOf P t=some e)(hi:(P.info? e).isSome=true)(hsz:P.cellsOf e=sz)(h1:k≤m):
  zbb P h t (.sl b 0 m sz) none (some (.int k1 (k:Int)))=some (.val (.sl b 0 k sz),h):=by
 have b1:z9e (some (AV.int k1 (k:Int))) m=some k:=rfl;have b2:z9e none 0=some 0:=rfl;simp only[zbb,z181,b1,b2,he];rw[if_pos ⟨Nat.ble_eq_true_of_le (Nat.zero_le k),Nat.ble_eq_true_of_le h1,hsz.symm,hi⟩,if_neg (fun hc=>by have:=Nat.le_of_ble_eq_true hc.2;omega),Nat.zero_mul,Nat.add_zero,Nat.sub_zero]
noncomputable def z20b:Nat→List AV
 |0=>[]
 |m+1=>[.nilp,.int .i64 0]++z20b m
theorem z243:∀m,(z20b m).length=2*m
 |0=>rfl
 |m+1=>by
  have:=z243 m;rw[z20b,List.length_append,this];show 2+_=_;omega
theorem z2fc:∀m,(z20b m).all AV.one=true
 |0=>rfl
 |m+1=>by
  rw[z20b,List.all_append,z2fc m];rfl
theorem z2fb:∀m,(List.replicate m [AV.nilp,.int .i64 0]).flatten=z20b m
 |0=>rfl
 |m+1=>by rw[List.replicate_succ,List.flatten_cons,z2fb m,z20b]
theorem clear_sl{h:AHeap}{c j m:Nat}{l:List AV}(k:RowH h c z20a l)(hl:2*j+2*m≤l.length):∃h',z1b7 Tryd.prog h z1ac (.sl c (2*j) m 2)=some (.val (.tup []),h')∧RowH h' c z20a (laid l (2*j) (z20b m))∧h'.next=h.next∧Tch [c] h h':=by
 obtain⟨h',e1,e2,e3,e4,e5⟩:=k.put (vs:=z20b m) (o:=2*j) (by rw[z243];omega) (z2fc m);refine⟨h',?_,e2,e3,z300 e3 e4 e5 (.inl (List.mem_singleton.2 rfl))⟩;have he:Abs.elemOf Tryd.prog z1ac=some z20a:=by kernel_rfl
 have hz:(z19f Tryd.prog z20a).map AV.cells=some [.nilp,.int .i64 0]:=by kernel_rfl
 have hsz:2=Tryd.prog.cellsOf z20a:=by kernel_rfl
 obtain⟨z,hz1,hz2⟩:=Option.map_eq_some_iff.1 hz;unfold z1b7;rw[he];dsimp only;rw[hz1];dsimp only;rw[if_pos hsz,hz2,z2fb,e1]
section
variable {n d ab o m live:Nat}{h:AHeap}{cells A:List AV}{v:AV}
theorem z265(ka:RowH h ab z3ca cells)(hv:cells[o+1]? =some v)(hab:ab<h.next)(k:VAt h v A m)(hl:live≤m)(hd:ab ∉ zd7 v):
  ∃v' h',world n (d+1) 53 [.ptr ab o,.int .i64 (live:Int)] h=some (.ret (.tup []),h')∧RowH h' ab z3ca (cells.set (o+1) v')∧VAt h' v' (A.take (2*live)) live∧zd7 v'=zd7 v∧h'.next=h.next∧Tch (ab::zd7 v) h h':=by
 have hlen:o+1<cells.length:=by
  apply Nat.lt_of_not_le;intro hh;rw[List.getElem?_eq_none hh] at hv;cases hv
 suffices hK:Wp (world n (d+1) 53 [.ptr ab o,.int .i64 (live:Int)] h) fun r h'=>∃v',r=.ret (.tup [])∧RowH h' ab z3ca (cells.set (o+1) v')∧VAt h' v' (A.take (2*live)) live∧zd7 v'=zd7 v∧h'.next=h.next∧Tch (ab::zd7 v) h h' by
  obtain⟨_,h',e,v',rfl,k⟩:=hK;exact⟨v',h',e,k⟩
 rw[z280];unfold zc6;have cv:=y5 ka hv
 rcases k with⟨rfl,rfl,rfl⟩|⟨c,rest,rfl,h1,h2,h3⟩
 ·obtain rfl : live = 0 := by omega
  have s1:zbb Tryd.prog h z1ac .nsl (some (.int .i64 ((0:Nat):Int))) none=some (.val .nsl,h):=by kernel_rfl
  have s2:z1b7 Tryd.prog h z1ac .nsl=some (.val (.tup []),h):=by kernel_rfl
  have s3:zbb Tryd.prog h z1ac .nsl none (some (.int .i64 ((0:Nat):Int)))=some (.val .nsl,h):=by kernel_rfl
  repeat(with_reducible first|(apply Wp.obind;first|exact z11 _ _|exact cv|exact z9 _ _ _)|(apply Wp.outK;first|exact s1|exact s2|exact s3))
  refine Wp.st1 ka hlen rfl fun h4 k4 t4 n4=>?_;exact Wp.ret ⟨.nsl,rfl,k4,.inl ⟨rfl,List.take_nil,rfl⟩,rfl,n4,t4⟩
 ·have he : Abs.elemOf Tryd.prog z1ac = some z20a := by kernel_rfl
  have hi:(Tryd.prog.info? z20a).isSome=true:=by kernel_rfl
  have hsz:Tryd.prog.cellsOf z20a=2:=by kernel_rfl
  have hne:ab≠c:=fun e=>hd (e▸List.mem_singleton.2 rfl)
  have fin:∀{h2:AHeap} {l2:List AV},RowH h2 c z20a l2→l2.take (2*live)=A.take (2*live)→2*live≤l2.length→h2.next=h.next→Tch [c] h h2→Wp (Abs.obind (z7c (.ptr ab o)) fun t12=>Abs.obind (z4c 1 t12) fun t13=>Abs.obind (z7 h2 t13) fun v14=>Abs.outK (zbb Tryd.prog h2 z1ac v14 none (some (.int .i64 (live:Int)))) fun v16 h_12=>Abs.obind (z7c (.ptr ab o)) fun t17=>Abs.obind (z4c 1 t17) fun t18=>Abs.obind (z15 h_12 1 (AV.cells v16) t18) fun h_16=>some (.ret (.tup []),h_16)) fun r h'=>∃v',r=.ret (.tup [])∧RowH h' ab z3ca (cells.set (o+1) v')∧VAt h' v' (A.take (2*live)) live∧zd7 v'=zd7 (.sl c 0 m 2)∧h'.next=h.next∧Tch (ab::zd7 (.sl c 0 m 2)) h h':=by
   intro h2 l2 k2 e2 hl2 n2 t2;have ka2:=ka.tch t2 hab (by simpa using hne);have cv2:=y5 ka2 hv;have s3:=z419 (P:=Tryd.prog) (h:=h2) (b:=c) (k1:=.i64) he hi hsz hl
   repeat(with_reducible first|(apply Wp.obind;first|exact z11 _ _|exact cv2|exact z9 _ _ _)|(apply Wp.outK;exact s3))
   refine Wp.st1 ka2 hlen rfl fun h4 k4 t4 n4=>?_;refine Wp.ret ⟨.sl c 0 live 2,rfl,k4,.inr ⟨c,l2.drop (2*live),rfl,?_,?_,?_⟩,rfl,n4.trans n2,?_⟩
   ·rw [← e2, List.length_take]
    omega
   ·rw [← e2, List.take_append_drop]
    exact k2.tch t4 (by rw[n2];exact h3) (by simpa using hne.symm)
   ·rw [n4, n2]
    exact h3
   ·exact(t2.mono (fun b hb=>.inl (List.mem_cons_of_mem _ hb))).trans (t4.mono (fun b hb=>.inl (by rw[List.mem_singleton.1 hb];exact List.mem_cons_self)))
  by_cases hlm:live=m∧0<live
  ·obtain ⟨rfl, h0⟩ := hlm
   have s1:=z37c (P:=Tryd.prog) (h:=h) (b:=c) (o:=0) (k1:=.i64) he hi hsz h0;have s2:z1b7 Tryd.prog h z1ac .esl=some (.val (.tup []),h):=by kernel_rfl
   refine Wp.obind (z11 _ _) (Wp.obind (z9 _ _ _) (Wp.obind cv (Wp.outK s1 (Wp.outK s2 ?_))));exact fin h2 (by rw[List.take_append_of_le_length (by omega)]) (by rw[List.length_append];omega) rfl (Tch.refl _ _)
  ·have s1 := z24b (P := Tryd.prog) (h := h) (b := c) (o := 0) (m := m) (l1 := live) (k1 := .i64) he hi hsz hl hlm
   rw[show 0+live*2=2*live by omega] at s1;obtain⟨h5,s2,k5,n5,t5⟩:=clear_sl (j:=live) (m:=m - live) h2 (by rw[List.length_append];omega);refine Wp.obind (z11 _ _) (Wp.obind (z9 _ _ _) (Wp.obind cv (Wp.outK s1 (Wp.outK s2 ?_))));have hll:2*live≤(A++rest).length:=by rw[List.length_append];omega
   refine fin k5 ?_ ?_ n5 t5
   ·unfold laid
    rw[List.append_assoc,List.take_append_of_le_length (by rw[List.length_take];omega),List.take_take,Nat.min_self,List.take_append_of_le_length (by omega)]
   ·rw [z11d (by rw [z243, List.length_append]; omega)]
    exact hll
end
def z4a5(N:Nt)(c:Nat)(x:z19d):z19d:=(x.1,stepN N x.2.1 c,x.2.2)
def zaf(N:Nt)(c:Nat):List z19d→List z19d
 |[]=>[]
 |x::l=>if z194 N (stepN N x.2.1 c)=true then zaf N c l else z4a5 N c x::zaf N c l
def accX(N:Nt)(c:Nat):Option Nat→z19d→Option Nat
 |some f,_=>some f
 |none,x=>if z132 N (stepN N x.2.1 c)=true then some x.2.2 else none
def z36d(N:Nt)(c:Nat)(a:Option Nat)(l:List z19d):Option Nat:=l.foldl (accX N c) a
theorem z459{N:Nt}{c:Nat}{a:Option Nat}{x:z19d}(h:z132 N (stepN N x.2.1 c)=false):accX N c a x=a:=by
 cases a with
 |some f=>rfl
 |none=>
  show (if z132 N (stepN N x.2.1 c)=true then some x.2.2 else none)=none;rw[if_neg (by rw[h];decide)]
theorem accX_done{N:Nt}{c:Nat}{x:z19d}(h:z132 N (stepN N x.2.1 c)=true):accX N c none x=some x.2.2:=by
 show (if z132 N (stepN N x.2.1 c)=true then some x.2.2 else none)=_;rw[if_pos h]
def z476(a:Option Nat):Int:=match a with
 |some f=>(f:Int)
 |none=>0
def InLoop(h0 H:AHeap)(nb c i:Nat)(S:List Nat)(kept todo:List z19d)(G:List AV):Prop:=kept.length≤i∧G.length=2*(i - kept.length)∧RowH H c z20a (z9c kept++(G++z9c todo))∧RunsAt H nb kept∧RunsAt H nb todo∧((kept++todo).map (·.1)).Nodup∧(∀x∈kept++todo,x.1∈S)∧Tch (c::S) h0 H
section
variable {h0 H H1 H2:AHeap}{nb c i byte:Nat}{S:List Nat}{kept todo:List z19d}{G:List AV}{x:z19d}{N:Nt}
theorem InLoop.apart(k:InLoop h0 H nb c i S kept (x::todo) G):(∀y∈kept,y.1≠x.1)∧∀y∈todo,y.1≠x.1:=by
 have h:=k.2.2.2.2.2.1;rw[List.map_append,List.nodup_append,List.map_cons,List.nodup_cons] at h;obtain⟨_,⟨h2,_⟩,h3⟩:=h;exact⟨fun y hy e=>h3 y.1 (List.mem_map_of_mem hy) x.1 List.mem_cons_self e,fun y hy e=>h2 (e▸List.mem_map_of_mem hy)⟩
theorem InLoop.skip(k:InLoop h0 H nb c i S kept (x::todo) G)(hcS:c ∉ S)(hc:c<h0.next)(t:Tch [x.1] H H1):InLoop h0 H1 nb c (i+1) S kept todo (G++z2ff x):=by
 obtain⟨a1,a2⟩:=k.apart;obtain⟨k1,k2,k3,k4,k5,k6,k7,k8⟩:=k;have hxS:x.1∈S:=k7 x (by simp);have hcx:c≠x.1:=fun e=>hcS (e▸hxS);refine⟨by omega,?_,?_,k4.tch t (fun y hy=>by simpa using a1 y hy),?_,?_,fun y hy=>k7 y ?_,?_⟩
 ·rw [List.length_append, k2]
  show _+2=_;omega
 ·have := k3.tch t (Nat.lt_of_lt_of_le hc k8.1) (by simpa using hcx)
  rw[z9c, ←List.append_assoc G] at this;exact this
 ·exact RunsAt.tch (fun y hy=>k5 y (List.mem_cons_of_mem _ hy)) t (fun y hy=>by simpa using a2 y hy)
 ·rw [List.map_append, List.map_cons] at k6
  rw[List.map_append];exact k6.sublist (List.Sublist.append_left (List.sublist_cons_self _ _) _)
 ·rcases List.mem_append.1 hy with hy | hy
  ·exact List.mem_append_left _ hy
  ·exact List.mem_append_right _ (List.mem_cons_of_mem _ hy)
 ·exact k8.trans (t.mono fun b hb=>.inl (by rw[List.mem_singleton.1 hb];exact List.mem_cons_of_mem _ hxS))
theorem laid_way{T:List AV}(hG:G.length=2*(i - kept.length)):laid (z9c kept++(G++(z2ff x++T))) (2*kept.length) (z2ff x)=z9c (kept++[x])++((G++z2ff x).drop 2++T):=by
 have hw:(z2ff x).length=2:=rfl;have hl:=z9f kept;unfold laid;rw[List.take_left' hl,z172,hw, ←hl,List.drop_append,List.drop_of_length_le (Nat.le_add_right _ _),Nat.add_sub_cancel_left,List.nil_append, ←List.append_assoc G,List.drop_append_of_le_length (by rw[List.length_append,hw];omega)];show _=z9c kept++(z2ff x++[])++_;rw[List.append_nil]
theorem InLoop.keep(k:InLoop h0 H nb c i S kept (x::todo) G)(hcS:c ∉ S)(hc:c<h0.next)(t:Tch [x.1] H H1)(kr:RowH H1 x.1 TRun (runC nb (stepN N x.2.1 byte)))(hs:(stepN N x.2.1 byte).2 <18446744073709551616)(k2:RowH H2 c z20a (laid (z9c kept++((G++z2ff x)++z9c todo)) (2*kept.length) (z2ff x)))(t2:Tch [c] H1 H2):
  InLoop h0 H2 nb c (i+1) S (kept++[z4a5 N byte x]) todo ((G++z2ff x).drop 2):=by
 have hxS:x.1∈S:=k.2.2.2.2.2.2.1 x (by simp);have hcx:c≠x.1:=fun e=>hcS (e▸hxS);have hlt:=(k.2.2.2.2.1 x List.mem_cons_self).2.1;have hxl:x.1<H1.next:=Nat.lt_of_lt_of_le hlt t.1;have k6:=k.2.2.2.2.2.1;have k7:=k.2.2.2.2.2.2.1;have hG:=k.2.1;have j:=k.skip hcS hc t;obtain⟨j1,j2,j3,j4,j5,j6,j7,j8⟩:=j;have hk:=k.1;have cne:∀y∈kept++todo,y.1 ∉ [c]:=fun y hy e=>hcS (List.mem_singleton.1 e▸j7 y hy);refine⟨by rw[List.length_append,List.length_singleton];omega,?_,?_,fun y hy=>?_,j5.tch t2 (fun y hy=>cne y (List.mem_append_right _ hy)),?_,fun y hy=>?_,j8.trans (t2.mono fun b hb=>.inl (by rw[List.mem_singleton.1 hb];exact List.mem_cons_self))⟩
 ·rw [List.length_drop, List.length_append, hG, List.length_append, List.length_singleton]
  show _+2 - 2=_;omega
 ·rw [List.append_assoc G, laid_way (i := i) hG, z172] at k2
  rw[z172];exact k2
 ·rcases List.mem_append.1 hy with hy | hy
  ·exact j4.tch t2 (fun y hy=>cne y (List.mem_append_left _ hy)) y hy
  ·rw [List.mem_singleton.1 hy]
   exact⟨kr.tch t2 hxl (by simpa using hcx.symm),Nat.lt_of_lt_of_le hxl t2.1,hs⟩
 ·rw [List.append_assoc, List.map_append] at *
  exact k6
 ·refine (?_ : ∀ y ∈ kept ++ [z4a5 N byte x] ++ todo, y.1 ∈ S) y hy
  intro y hy
  rcases List.mem_append.1 hy with hy|hy
  ·rcases List.mem_append.1 hy with hy | hy
   ·exact k7 y (List.mem_append_left _ hy)
   ·rw [List.mem_singleton.1 hy]
    exact hxS
  ·exact k7 y (List.mem_append_right _ (List.mem_cons_of_mem _ hy))
end
theorem y1e{α:Type}{a:α}{K:α→R}{Q:ARes→AHeap→Prop}(hk:∀x,x=a→Wp (K x) Q):Wp (Abs.lett a K) Q:=hk a rfl
theorem z325{N:Nt}{st:Bool×Nat}(h:z194 N st=true):z132 N st=false:=by
 cases hd:z132 N st with
 |false=>rfl
 |true=>
  rw[done_live hd] at h;cases h
theorem z25d{b m i:Nat}(h:i<m):z171 2 (.sl b 0 m 2) (i:Int)=some (.ptr b (0+i*2)):=by
 have e:Nat.blt i m=true:=by simpa using h
 show (match Nat.blt i m with|true=>some (AV.ptr b (0+i*2))|false=>none)=_;rw[e]
theorem z248{h:AHeap}{b:Nat}{e:TypeId}{l:List AV}(hT:HasTz h)(k:RowH h b e l):0≠b:=by
 intro hb;subst hb;obtain⟨t,h1,_⟩:=k;rw[hT.1] at h1;cases h1
section
variable {N:Nt}{n d nb ab o c L byte:Nat}{h0:AHeap}{S:List Nat}{cells:List AV}{Q:ARes→AHeap→Prop}{k30:Int→Bool→Int→AHeap→R}
theorem z453(hT:HasTz h0)(hN:NtOk N)(hn:18446744073709551616<n)(hb:byte<256)(hL:L<1000000)(kn:RowH h0 nb TNet (netC N))(hnb:nb<h0.next)(hnS:nb ∉ S)(hnc:nb≠c)(ka:RowH h0 ab z3ca cells)(hab:ab<h0.next)(haS:ab ∉ S)(hac:ab≠c)(hv:cells[o+1]? =some (.sl c 0 L 2))(hcS:c ∉ S)(hc:c<h0.next)(hTS:0 ∉ c::S):
  ∀(todo:List z19d) (i fu:Nat) (kept:List z19d) (G:List AV) (a:Option Nat) (H:AHeap),todo.length<fu→i+todo.length=L→(∀x∈todo,x.2.2<1000000000000)→InLoop h0 H nb c i S kept todo G→
   (∀(H':AHeap) (G':List AV),InLoop h0 H' nb c L S (kept++zaf N byte todo) [] G'→Wp (k30 (z476 (z36d N byte a todo)) (z36d N byte a todo).isSome ((kept++zaf N byte todo).length:Int) H') Q)→
   Wp (z88 (world n (d+3)) (.ptr ab o) (byte:Int) (.sl c 0 L 2) (L:Int) k30 fu (z476 a) a.isSome (kept.length:Int) (i:Int) H) Q
 |_,_,0,_,_,_,_,hf,_,_,_,_=>by omega
 |[],i,fu+1,kept,G,a,H,hf,hi,hx,k,hk=>by
  rw[zf7];unfold z99;have hiL:i=L:=hi;subst hiL
  ((with_reducible refine Wp.lett ?_))
  refine y6 (by rw[decide_eq_false_iff_not];omega) ?_;have:=hk H G (by rw[zaf,List.append_nil];exact k);rw[zaf,List.append_nil] at this;exact this
 |x::todo,i,fu+1,kept,G,a,H,hf,hi,hx,k,hk=>by
  rw[List.length_cons] at hf hi;have hiL:i<L:=by omega
  have el:(i:Int)+1=((i+1:Nat):Int):=by omega
  obtain⟨k1,k2,k3,k4,k5,k6,k7,k8⟩:=id k;have hxS:x.1∈S:=k7 x (by simp);obtain⟨hx1,hx2,hx3⟩:=k5 x List.mem_cons_self;have hfr:=hx x List.mem_cons_self;have w1:=z25d (b:=c) hiL;have hcH:c<H.next:=Nat.lt_of_lt_of_le hc k8.1
  have w2:z16 H 2 (.ptr c (0+i*2))=some (z2ff x):=by
   have:=k3.ld (o:=0+i*2) (n:=2) (by rw[List.length_append,List.length_append,z9f,z9f,List.length_cons];omega);rw[this]
   congr 1
   rw[←List.append_assoc,z9c,List.drop_left' (by rw[List.length_append,z9f];omega)];exact List.take_left' rfl
  have knH:=kn.tch k8 hnb (by simp[hnS,hnc]);have kaH:=ka.tch k8 hab (by simp[haS,hac]);have hTH:=hT.tch k8 hTS;have hne:x.1≠nb:=fun e=>hnS (e▸hxS);have hxc:x.1≠c:=fun e=>hcS (e▸hxS);have hxa:x.1≠ab:=fun e=>haS (e▸hxS);rw[zf7];unfold z99
  ((with_reducible refine Wp.lett ?_))
  refine y8 (by rw[decide_eq_true_eq];omega) ?_;refine y1e fun k46 ek46=>?_;have M0:=Mem.nil [] H;refine Wp.obind w1 ?_;refine Wp.obind w2 ?_;refine y9 M0 fun h55 M1=>?_;rw[z10];refine y11 M1 rfl rfl rfl fun h57 M2=>?_;have t57:=M2.tch;have p0:=M2.at0.1;have p1:=M2.at0.2.1;refine Wp.obind (y5 p0 (show (z2ff x)[0]? =some (.ptr x.1 0) from rfl)) ?_;have hx57:=hx1.tch t57 hx2 (by simp);obtain⟨h61,e61,kr,t61⟩:=step_r (n:=n) (d:=d) (hTH.tch t57 (by simp)) hN hx3 hn hne hb hx57 (knH.tch t57 (Nat.lt_of_lt_of_le hnb k8.1) (by simp)) (Nat.lt_of_lt_of_le (Nat.lt_of_lt_of_le hnb k8.1) t57.1);refine Wp.callN e61 ?_;have hpx:H.next≠x.1:=by omega
  have q0:=p0.tch t61 p1 (by simpa using hpx);have tA:Tch [x.1] H h61:=(t57.mono (fun b hb=>nomatch hb)).trans t61;have kn61:=(knH.tch tA (Nat.lt_of_lt_of_le hnb k8.1) (by simpa using hne.symm));have hsm:=z302 hN x.2.1 byte;refine Wp.obind (y5 q0 (show (z2ff x)[0]? =some (.ptr x.1 0) from rfl)) ?_;refine Wp.callN (dead_w (n:=n) (d:=d+1) kr kn61) ?_;refine Wp.obind (z5 _) ?_;have nx:=fun kept G a H'=>z453 hT hN hn hb hL kn hnb hnS hnc ka hab haS hac hv hcS hc hTS todo (i+1) fu kept G a H' (by omega) (by omega) (fun y hy=>hx y (List.mem_cons_of_mem _ hy));cases hd:z194 N (stepN N x.2.1 byte) with
  |true=>
   refine y8 rfl ?_;rw[ek46]
   repeat(((with_reducible refine ye ?_ ?_ ?_);omega;omega))
   rw[el];have hdn:=z325 hd;refine nx kept _ a h61 (k.skip hcS hc tA) fun H' G' k'=>?_;have:=hk H' G';rw[zaf,if_pos hd,show z36d N byte a (x::todo)=z36d N byte a todo from congrArg (fun z=>z36d N byte z todo) (z459 hdn)] at this;exact this k'
  |false=>
   refine y6 rfl ?_;refine Wp.obind (y5 q0 (show (z2ff x)[0]? =some (.ptr x.1 0) from rfl)) ?_;refine Wp.callN (done_w (n:=n) (d:=d+1) hN hsm kr kn61) ?_;refine Wp.obind (z5 _) ?_;have kc61:=k3.tch tA hcH (by simpa using hxc.symm);have ka61:=kaH.tch tA (Nat.lt_of_lt_of_le hab k8.1) (by simpa using hxa.symm);have cv:=y5 ka61 hv;have w3:z171 2 (.sl c 0 L 2) (kept.length:Int)=some (.ptr c (0+kept.length*2)):=z25d (by omega);have w4:z16 h61 2 (.ptr H.next 0)=some (z2ff x):=y12 q0 rfl;have w5:Abs.avInt .i64 (.int .i64 (x.2.2:Int))=some (x.2.2:Int):=z4 _ _;have w6:=y5 q0 (show (z2ff x)[1]? =some (.int .i64 (x.2.2:Int)) from rfl);have elk:(kept.length:Int)+1=((kept.length+1:Nat):Int):=by omega
   have fin:∀(a':Option Nat) (h88:AHeap),z36d N byte a (x::todo)=z36d N byte a' todo→RowH h88 c z20a (laid (z9c kept++(G++z9c (x::todo))) (0+kept.length*2) (z2ff x))→Tch [c] h61 h88→Wp (z88 (world n (d+3)) (.ptr ab o) (byte:Int) (.sl c 0 L 2) (L:Int) k30 fu (z476 a') a'.isSome ((kept.length+1:Nat):Int) ((i+1:Nat):Int) h88) Q:=by
    intro a' h88 ha k88 t88
    have kk:=k.keep (N:=N) (byte:=byte) hcS hc tA kr hsm (by
     rw[show 0+kept.length*2=2*kept.length by omega,z9c, ←List.append_assoc G] at k88;exact k88) t88
    have:=nx _ _ a' h88 kk fun H' G' k'=>(by
     have:=hk H' G';rw[zaf,if_neg (by rw[hd];decide),ha] at this;rw[List.append_assoc] at k' ⊢;exact this k')
    rw[List.length_append] at this;exact this
   have st:∀(a':Option Nat),z36d N byte a (x::todo)=z36d N byte a' todo→Wp (Abs.obind (z15 h61 2 (z2ff x) (.ptr c (0+kept.length*2))) fun h_88=>Abs.lett (IntKind.i64.wrap ((kept.length:Int)+1)) fun (t60:Int)=>k46 (z476 a') a'.isSome t60 h_88) Q:=by
    intro a' ha;refine Wp.stN kc61 rfl (by rw[List.length_append,List.length_append,z9f,z9f,List.length_cons];omega) rfl fun h88 k88 t88 n88=>?_;rw[ek46]
    repeat(((with_reducible refine ye ?_ ?_ ?_);omega;omega))
    rw[el,elk];exact fin a' h88 ha k88 t88
   cases hdo:z132 N (stepN N x.2.1 byte) with
   |false=>
    repeat(with_reducible first|(first|refine y7 (fun _ _=>?_)|refine y54 (fun _ _=>?_))|(apply Wp.obind;first|exact z11 _ _|exact cv|exact w4|exact w3|exact z9 _ _ _)|(refine y6 ?_ ?_;rfl)|(first|refine yd (by assumption) ?_|refine Wp.go2 (by assumption) ?_))
    exact st a (congrArg (fun z=>z36d N byte z todo) (z459 hdo))
   |true=>
    cases a with
    |some f=>
     have b1:(!(some f).isSome)=false:=rfl
     repeat(with_reducible first|(first|refine y7 (fun _ _=>?_)|refine y54 (fun _ _=>?_))|refine Wp.lett ?_|(apply Wp.obind;first|exact z11 _ _|exact cv|exact w4|exact w3|exact z9 _ _ _)|(refine y8 ?_ ?_;rfl)|(refine y6 ?_ ?_;assumption)|(first|refine yd (by assumption) ?_|refine Wp.go2 (by assumption) ?_))
     exact st (some f) rfl
    |none=>
     have b1:(!(none:Option Nat).isSome)=true:=rfl
     repeat(with_reducible first|(first|refine y7 (fun _ _=>?_)|refine y54 (fun _ _=>?_))|refine Wp.lett ?_|(apply Wp.obind;first|exact w6|exact z11 _ _|exact cv|exact w4|exact w3|exact z4 _ _|exact z9 _ _ _)|(refine y8 ?_ ?_;first|rfl|assumption)|(first|refine yd (by assumption) ?_|refine Wp.go2 (by assumption) ?_))
     exact st (some x.2.2) (congrArg (fun z=>z36d N byte z todo) (accX_done hdo))
end
theorem bldWay(b:Nat)(z:Int):z2d6 Tryd.prog z20a [(0,.ptr b 0),(1,.int .i64 z)]=some [.ptr b 0,.int .i64 z]:=by kernel_rfl
theorem bldSlWay(h:AHeap)(b:Nat)(z:Int):z154 Tryd.prog h z1ac 1 [(0,.agg [.ptr b 0,.int .i64 z])]=zc8 h z20a [.ptr b 0,.int .i64 z] 1 2:=by kernel_rfl
structure ArmAt (h:AHeap) (ab o nb:Nat) (N:Nt) (cells:List AV) (v:AV) (l:List z19d):Prop where
 row:RowH h ab z3ca cells
 hab:ab<h.next
 net:cells[o]? =some (.ptr nb 0)
 val:cells[o+1]? =some v
 sl:VAt h v (z9c l) l.length
 runs:RunsAt h nb l
 kn:RowH h nb TNet (netC N)
 hnb:nb<h.next
 nd:(l.map (·.1)).Nodup
 apart:∀b∈zd7 v,b ∉ l.map (·.1)
 ab1:ab ∉ zd7 v
 ab2:ab ∉ l.map (·.1)
 nb1:nb ∉ zd7 v
 nb2:nb ∉ l.map (·.1)
theorem z22d{N:Nt}{c:Nat}:∀{l:List z19d} {y:z19d},y∈zaf N c l→∃x∈l,y=z4a5 N c x
 |[],_,h=>nomatch h
 |x::l,y,h=>by
  rw[zaf] at h
  split at h
  ·obtain ⟨z, hz, e⟩ := z22d h
   exact⟨z,List.mem_cons_of_mem _ hz,e⟩
  ·rcases List.mem_cons.1 h with rfl | h
   ·exact⟨x,List.mem_cons_self,rfl⟩
   ·obtain ⟨z, hz, e⟩ := z22d h
    exact⟨z,List.mem_cons_of_mem _ hz,e⟩
section
variable {N:Nt}{n d nb ab o byte at_:Nat}{h:AHeap}{cells:List AV}{v:AV}{l:List z19d}
theorem z48d(hT:HasTz h)(hN:NtOk N)(hn:18446744073709551616<n)(hb:byte<256)(k:ArmAt h ab o nb N cells v l)(hne:ab≠nb)(hl:l.length<100000)(hx:∀x∈l,x.2.2<1000000000000)(ha:at_<1000000000000)(hex:zd4 z20a h.ex=false):
  ∃v' h',world n (d+4) 45 [.ptr ab o,.int .u8 (byte:Int),.int .i64 (at_:Int)] h=some (.ret (.tup [.int .i64 (z476 (z36d N byte none (l++[(h.next,(false,0),at_)]))),.bool (z36d N byte none (l++[(h.next,(false,0),at_)])).isSome]),h')∧
   ArmAt h' ab o nb N (cells.set (o+1) v') v' (zaf N byte (l++[(h.next,(false,0),at_)]))∧((∀b∈zd7 v',h.next≤b)∧zd7 v'≠[])∧Tch (ab::(zd7 v++l.map (·.1))) h h':=by
 obtain⟨k1,k2,k3,k4,k5,k6,k7,k8,k9,k10,k11,k12,k13,k14⟩:=id k
 have hlen:o+1<cells.length:=by
  apply Nat.lt_of_not_le;intro hh;rw[List.getElem?_eq_none hh] at k4
  cases k4
 suffices hK:Wp (world n (d+4) 45 [.ptr ab o,.int .u8 (byte:Int),.int .i64 (at_:Int)] h) fun r h'=>∃v',r=.ret (.tup [.int .i64 (z476 (z36d N byte none (l++[(h.next,(false,0),at_)]))),.bool (z36d N byte none (l++[(h.next,(false,0),at_)])).isSome])∧ArmAt h' ab o nb N (cells.set (o+1) v') v' (zaf N byte (l++[(h.next,(false,0),at_)]))∧((∀b∈zd7 v',h.next≤b)∧zd7 v'≠[])∧Tch (ab::(zd7 v++l.map (·.1))) h h' by
  obtain⟨_,h',e,v',rfl,k⟩:=hK;exact⟨v',h',e,k⟩
 rw[z27f];unfold zc5;have c1:=y5 k1 k4;have c2:=y5 k1 k3;obtain⟨h1,e1,M1⟩:=begin_m (n:=n) (d:=d+2) (nb:=nb) (Mem.nil [] h);refine Wp.obind (z11 _ _) (Wp.obind (z9 _ _ _) (Wp.obind c1 (Wp.obind (z11 _ _) (Wp.obind (z9 _ _ _) (Wp.obind c2 (Wp.callN e1 ?_))))));have t1:=M1.tch;have ka1:=k1.tch t1 k2 (by simp);refine Wp.chk (z268 rfl (z268 (z33f (by kernel_rfl) (y5 ka1 k4)) rfl)) ?_;refine Wp.obind (bldWay _ _) ?_;refine y2f M1 (bldSlWay _ _ _) rfl hex fun h2 M2=>?_;have t2:=M2.tch;have ka2:=k1.tch t2 k2 (by simp);refine Wp.chk (z268 rfl (z268 (z33f (by kernel_rfl) (y5 ka2 k4)) rfl)) ?_;have kv2:=k5.tch t2 (fun b _=>by simp);obtain⟨h3,e3,kc3,hc3,t3⟩:=kv2.push M2.at0.1 rfl rfl (by omega) (by rw[M2.ex];exact hex);refine Wp.outK e3 ?_;have hle2:=t2.1;have hlab:ab<h2.next:=Nat.lt_of_lt_of_le k2 hle2;have ka3:=ka2.tch t3 hlab k11;refine Wp.obind (z11 _ _) (Wp.obind (z9 _ _ _) ?_);show Wp (Abs.obind (z15 h3 1 [AV.sl h2.next 0 (l.length+1) 2] (.ptr ab (o+1))) _) _;refine Wp.st1 ka3 hlen rfl fun h4 ka4 t4 n4=>?_;have hv4:(cells.set (o+1) (.sl h2.next 0 (l.length+1) 2))[o+1]? =some (.sl h2.next 0 (l.length+1) 2):=List.getElem?_set_self hlen;refine Wp.obind (z11 _ _) (Wp.obind (z9 _ _ _) (Wp.obind (y5 ka4 hv4) ?_));refine Wp.obind (show z15f (.sl h2.next 0 (l.length+1) 2)=some ((l.length+1:Nat):Int) from rfl) ?_;refine y1e fun k30 ek30=>?_;have hle3:=t3.1;have hids:∀x∈l,x.1<h.next:=fun x hx=>(k6 x hx).2.1
 have hidm:∀b∈l.map (·.1),b<h.next:=fun b hb=>by
  obtain⟨x,hx,rfl⟩:=List.mem_map.1 hb;exact hids x hx
 have hvlt:=k5.lt;have hr1:=M1.at0.2.1;have hr2:h.next<h2.next:=M2.at1.2.1
 -- memory from the beginning to the loop
 have t34:Tch (ab::zd7 v) h2 h4:=(t3.mono fun b hb=>.inl (List.mem_cons_of_mem _ hb)).trans (t4.mono fun b hb=>.inl (by rw[List.mem_singleton.1 hb];exact List.mem_cons_self));have t04:Tch (ab::zd7 v) h h4:=(t2.mono fun b hb=>nomatch hb).trans t34
 have hid:∀x∈l,x.1 ∉ ab::zd7 v:=by
  intro x hx hb
  rcases List.mem_cons.1 hb with hb|hb
  ·exact k12 (hb▸List.mem_map_of_mem hx)
  ·exact k10 _ hb (List.mem_map_of_mem hx)
 have runs4:=k6.tch t04 hid
 have kn4:=k7.tch t04 k8 (fun hb=>by
  rcases List.mem_cons.1 hb with hb|hb
  ·exact hne hb.symm
  ·exact k13 hb)
 have r04:RowH h4 h.next TRun (runC nb (false,0)):=M2.at1.1.tch t34 hr2 (fun hb=>by
  rcases List.mem_cons.1 hb with hb|hb
  ·omega
  ·have := hvlt _ hb
   omega)
 have kc4:=kc3.tch t4 hc3 (fun hb=>by
  have:=List.mem_singleton.1 hb;omega)
 have hTH:HasTz h4:=hT.tch t04 (fun hb=>by
  rcases List.mem_cons.1 hb with hb|hb
  ·exact z248 hT k1 hb
  ·rcases k5 with ⟨rfl, _⟩ | ⟨c, rest, rfl, _, g, _⟩
   ·exact nomatch hb
   ·exact z248 hT g (List.mem_singleton.1 hb))
 have hw:z9c (l++[(h.next,(false,0),at_)])=z9c l++[.ptr h.next 0,.int .i64 (at_:Int)]:=by
  rw[z172];rfl
 have hS:∀b∈l.map (·.1)++[h.next],b≤h.next:=fun b hb=>by
  rcases List.mem_append.1 hb with hb|hb
  ·exact Nat.le_of_lt (hidm b hb)
  ·exact Nat.le_of_eq (List.mem_singleton.1 hb)
 have n4':h4.next=h3.next:=n4
 have inv:InLoop h4 h4 nb h2.next 0 (l.map (·.1)++[h.next]) [] (l++[(h.next,(false,0),at_)]) []:=by
  refine⟨Nat.le_refl _,rfl,?_,(fun _ hx=>nomatch hx),fun x hx=>?_,?_,fun x hx=>?_,Tch.refl _ _⟩
  ·rw [hw]
   exact kc4
  ·rcases List.mem_append.1 hx with hx | hx
   ·exact runs4 x hx
   ·rw [List.mem_singleton.1 hx]
    exact⟨r04,by show h.next<h4.next;omega,show (0:Nat)<18446744073709551616 by decide⟩
  ·rw [List.nil_append, List.map_append, List.nodup_append]
   refine⟨k9,by simp,fun a ha b hb e=>?_⟩;have h1:=hidm a ha;have h2:b=h.next:=by simpa using hb
   omega
  ·rw [List.nil_append] at hx
   rcases List.mem_append.1 hx with hx|hx
   ·exact List.mem_append_left _ (List.mem_map_of_mem hx)
   ·rw [List.mem_singleton.1 hx]
    exact List.mem_append_right _ (List.mem_singleton.2 rfl)
 have habS:ab ∉ l.map (·.1)++[h.next]:=fun hb=>by
  rcases List.mem_append.1 hb with hb|hb
  ·exact k12 hb
  ·have := List.mem_singleton.1 hb
   omega
 have hnbS:nb ∉ l.map (·.1)++[h.next]:=fun hb=>by
  rcases List.mem_append.1 hb with hb|hb
  ·exact k14 hb
  ·have := List.mem_singleton.1 hb
   omega
 have hcS:h2.next ∉ l.map (·.1)++[h.next]:=fun hb=>by
  have:=hS _ hb;omega
 have hTS:0 ∉ h2.next::(l.map (·.1)++[h.next]):=fun hb=>by
  rcases List.mem_cons.1 hb with hb|hb
  ·exact z248 hTH kc4 hb
  ·rcases List.mem_append.1 hb with hb | hb
   ·obtain ⟨x, hx, e⟩ := List.mem_map.1 hb
    exact z248 hT (k6 x hx).1 e.symm
   ·exact z248 hTH r04 (List.mem_singleton.1 hb)
 refine z453 (n:=n) (d:=d) (h0:=h4) (c:=h2.next) (o:=o) (L:=l.length+1) (S:=l.map (·.1)++[h.next]) hTH hN hn hb (by omega) kn4 (by omega) hnbS (by omega) ka4 (by omega) habS (by omega) hv4 hcS (by omega) hTS (l++[(h.next,(false,0),at_)]) 0 n [] [] none h4 (by rw[List.length_append,List.length_singleton];omega) (by rw[List.length_append,List.length_singleton];omega) (fun x hx'=>by
  rcases List.mem_append.1 hx' with hx'|hx'
  ·exact hx x hx'
  ·rw [List.mem_singleton.1 hx']
   exact ha) inv fun H G' j=>?_
 rw[List.nil_append] at j ⊢;obtain⟨j1,j2,j3,j4,j5,j6,j7,j8⟩:=j;rw[ek30]
 have kaH:=ka4.tch j8 (by omega) (fun hb=>by
  rcases List.mem_cons.1 hb with hb|hb
  ·omega
  ·exact habS hb)
 have hnH:=j8.1;have kvH:VAt H (.sl h2.next 0 (l.length+1) 2) (z9c (zaf N byte (l++[(h.next,(false,0),at_)]))++G') (l.length+1):=.inr ⟨h2.next,[],rfl,by rw[List.length_append,z9f,j2];omega,by rw[z9c,List.append_nil] at j3;rw[List.append_nil];exact j3,by omega⟩
 obtain⟨v',h',e5,kx1,kx2,kx3,kx4,kx5⟩:=z265 (n:=n) (d:=d+2) (live:=(zaf N byte (l++[(h.next,(false,0),at_)])).length) kaH hv4 (by omega) kvH j1 (fun hb=>by
  have:=List.mem_singleton.1 hb;omega)
 refine Wp.callN e5 ?_;rw[List.set_set] at kx1;rw[List.take_left' (z9f _)] at kx2;have hset:(cells.set (o+1) v')[o+1]? =some v':=List.getElem?_set_self hlen
 have hbv:∀b∈zd7 v',b=h2.next:=fun b hb=>by
  rw[kx3] at hb;exact List.mem_singleton.1 hb
 have hks:∀x∈zaf N byte (l++[(h.next,(false,0),at_)]),x.1∈l.map (·.1)++[h.next]:=fun x hx=>j7 x (List.mem_append_left _ hx)
 have hkm:∀b∈(zaf N byte (l++[(h.next,(false,0),at_)])).map (·.1),b∈l.map (·.1)++[h.next]:=fun b hb=>by
  obtain⟨x,hx,rfl⟩:=List.mem_map.1 hb;exact hks x hx
 have kb3:zd7 (.sl h2.next 0 (l.length+1) 2)=[h2.next]:=rfl;rw[kb3] at kx5
 have tfin:Tch (ab::h2.next::(l.map (·.1)++[h.next])) h4 h':=(j8.mono fun b hb=>.inl (List.mem_cons_of_mem _ hb)).trans (kx5.mono fun b hb=>.inl (by
  rcases List.mem_cons.1 hb with hb|hb
  ·rw [hb]
   exact List.mem_cons_self
  ·rw [List.mem_singleton.1 hb]
   exact List.mem_cons_of_mem _ List.mem_cons_self))
 refine Wp.ret ⟨v',rfl,⟨kx1,by omega,?_,hset,kx2,?_,?_,by omega,?_,?_,?_,?_,?_,?_⟩,⟨fun b hb=>by rw[hbv b hb];omega,by rw[kx3];exact List.cons_ne_nil _ _⟩,?_⟩
 ·rw [List.getElem?_set_ne (by omega)]
  exact k3
 ·refine j4.tch kx5 fun x hx hb => ?_
  rcases List.mem_cons.1 hb with hb|hb
  ·exact habS (hb▸hks x hx)
  ·exact hcS (List.mem_singleton.1 hb▸hks x hx)
 ·refine kn4.tch tfin (by omega) fun hb => ?_
  rcases List.mem_cons.1 hb with hb|hb
  ·exact hne hb.symm
  ·rcases List.mem_cons.1 hb with hb | hb
   ·omega
   ·exact hnbS hb
 ·rw [List.append_nil] at j6
  exact j6
 ·intro b hb hm
  rw[hbv b hb] at hm;exact hcS (hkm _ hm)
 ·intro hb
  have:=hbv _ hb;omega
 ·exact fun hb=>habS (hkm _ hb)
 ·intro hb
  have:=hbv _ hb;omega
 ·exact fun hb=>hnbS (hkm _ hb)
 ·refine (t04.mono fun b hb => .inl ?_).trans' tfin fun b hb => ?_
  ·rcases List.mem_cons.1 hb with hb | hb
   ·rw [hb]
    exact List.mem_cons_self
   ·exact List.mem_cons_of_mem _ (List.mem_append_left _ hb)
  ·rcases List.mem_cons.1 hb with hb | hb
   ·rw [hb]
    exact .inl List.mem_cons_self
   ·rcases List.mem_cons.1 hb with hb | hb
    ·right
     omega
    ·rcases List.mem_append.1 hb with hb | hb
     ·exact .inl (List.mem_cons_of_mem _ (List.mem_append_right _ hb))
     ·right
      rw[List.mem_singleton.1 hb];exact Nat.le_refl _
end
abbrev z3c9:Nat:=26
structure ArmT where
 nb:Nat
 N:Nt
 v:AV
 l:List z19d
def z498(a:ArmT):List Nat:=zd7 a.v++a.l.map (·.1)
def z5a:List ArmT→List Nat
 |[]=>[]
 |a::r=>z498 a++z5a r
noncomputable def z110:List ArmT→List AV
 |[]=>[]
 |a::r=>[.ptr a.nb 0,a.v]++z110 r
theorem z23f:∀az:List ArmT,(z110 az).length=2*az.length
 |[]=>rfl
 |a::r=>by
  have:=z23f r;rw[z110,List.length_append,this];show 2+2*r.length=2*(r.length+1);omega
theorem z1c9:∀a b:List ArmT,z110 (a++b)=z110 a++z110 b
 |[],_=>rfl
 |x::a,b=>by rw[List.cons_append,z110,z110,z1c9 a b,List.append_assoc]
theorem z6f{b:Nat}:∀{az:List ArmT},b∈z5a az↔∃a∈az,b∈z498 a
 |[]=>by simp[z5a]
 |a::r=>by
  rw[z5a,List.mem_append,z6f]
  simp
structure ArmsAt (h:AHeap) (ab:Nat) (az:List ArmT):Prop where
 row:RowH h ab z3ca (z110 az)
 hab:ab<h.next
 net:∀a∈az,NtOk a.N∧RowH h a.nb TNet (netC a.N)∧a.nb<h.next
 sl:∀a∈az,VAt h a.v (z9c a.l) a.l.length
 runs:∀a∈az,RunsAt h a.nb a.l
 nd:∀a∈az,(a.l.map (·.1)).Nodup
 apart:∀a∈az,∀b∈zd7 a.v,b ∉ a.l.map (·.1)
 own:∃f:Nat→Nat,f ab=0∧(∀a∈az,f a.nb=1)∧∀(i:Nat) (a:ArmT),az[i]? =some a→∀b∈z498 a,f b=i+2
section
variable {h h':AHeap}{ab:Nat}{az P R:List ArmT}{a:ArmT}
theorem ArmsAt.lt(k:ArmsAt h ab az):∀b∈z5a az,b<h.next:=by
 intro b hb;obtain⟨a,ha,hb⟩:=z6f.1 hb
 rcases List.mem_append.1 hb with hb|hb
 ·exact(k.sl a ha).lt b hb
 ·obtain ⟨x, hx, rfl⟩ := List.mem_map.1 hb
  exact(k.runs a ha x hx).2.1
theorem ArmsAt.tch{S:List Nat}(k:ArmsAt h ab az)(t:Tch S h h')(h1:ab ∉ S)(h2:∀a∈az,a.nb ∉ S)(h3:∀b∈z5a az,b ∉ S):ArmsAt h' ab az:=by
 obtain⟨k1,k2,k3,k4,k5,k6,k7,k8⟩:=k;exact⟨k1.tch t k2 h1,Nat.lt_of_lt_of_le k2 t.1,fun a ha=>⟨(k3 a ha).1,(k3 a ha).2.1.tch t (k3 a ha).2.2 (h2 a ha),Nat.lt_of_lt_of_le (k3 a ha).2.2 t.1⟩,fun a ha=>(k4 a ha).tch t (fun b hb=>h3 b (z6f.2 ⟨a,ha,List.mem_append_left _ hb⟩)),fun a ha=>(k5 a ha).tch t (fun x hx=>h3 x.1 (z6f.2 ⟨a,ha,List.mem_append_right _ (List.mem_map_of_mem hx)⟩)),k6,k7,k8⟩
theorem ArmsAt.at(k:ArmsAt h ab (P++a::R)):ArmAt h ab (0+P.length*2) a.nb a.N (z110 (P++a::R)) a.v a.l∧ab≠a.nb:=by
 obtain⟨f,f1,f2,f3⟩:=k.own;have ha:a∈P++a::R:=by simp
 have hi:(P++a::R)[P.length]? =some a:=by simp
 have f4:=f3 _ _ hi;have f5:=f2 a ha;have e:z110 (P++a::R)=z110 P++([.ptr a.nb 0,a.v]++z110 R):=by rw[z1c9,z110]
 have hP:=z23f P;have bv:∀{b},b∈zd7 a.v→f b=P.length+2:=fun hb=>f4 _ (List.mem_append_left _ hb);have bl:∀{b},b∈a.l.map (·.1)→f b=P.length+2:=fun hb=>f4 _ (List.mem_append_right _ hb);refine⟨⟨k.row,k.hab,?_,?_,k.sl a ha,k.runs a ha,(k.net a ha).2.1,(k.net a ha).2.2,k.nd a ha,k.apart a ha,fun hb=>?_,fun hb=>?_,fun hb=>?_,fun hb=>?_⟩,fun he=>?_⟩
 ·rw [e, List.getElem?_append_right (by omega), show 0 + P.length * 2 - (z110 P).length = 0 by omega]
  rfl
 ·rw [e, List.getElem?_append_right (by omega), show 0 + P.length * 2 + 1 - (z110 P).length = 1 by omega]
  rfl
 ·have := bv hb
  omega
 ·have := bl hb
  omega
 ·have := bv hb
  omega
 ·have := bl hb
  omega
 ·rw [he] at f1
  omega
theorem armsC_set{v':AV}:(z110 (P++a::R)).set (0+P.length*2+1) v'=z110 (P++{a with v:=v'}::R):=by
 have hP:=z23f P;rw[z1c9,z1c9,z110,z110,List.set_append_right _ _ (by omega),show 0+P.length*2+1 - (z110 P).length=1 by omega];rfl
theorem ArmsAt.step{v':AV}{l':List z19d}(k:ArmsAt h ab (P++a::R))(k':ArmAt h' ab (0+P.length*2) a.nb a.N ((z110 (P++a::R)).set (0+P.length*2+1) v') v' l')(hv:∀b∈zd7 v',b∈zd7 a.v∨h.next≤b)(hl:∀b∈l'.map (·.1),b∈a.l.map (·.1)∨h.next≤b)(t:Tch (ab::z498 a) h h'):
  ArmsAt h' ab (P++{a with v:=v',l:=l'}::R):=by
 obtain⟨f,f1,f2,f3⟩:=k.own;have ha:a∈P++a::R:=by simp
 have hi:(P++a::R)[P.length]? =some a:=by simp
 have f4:=f3 _ _ hi
 have hS:∀{b},b∈ab::z498 a→f b=0∨f b=P.length+2:=fun hb=>by
  rcases List.mem_cons.1 hb with hb|hb
  ·rw [hb]
   exact .inl f1
  ·exact .inr (f4 _ hb)
 have others:∀y∈P++{a with v:=v',l:=l'}::R,y={a with v:=v',l:=l'}∨(y∈P++a::R∧∀b∈z498 y,b ∉ ab::z498 a):=by
  intro y hy
  have place:∀(j:Nat),(P++a::R)[j]? =some y→j≠P.length→(y∈P++a::R∧∀b∈z498 y,b ∉ ab::z498 a):=fun j hj hne=>⟨List.mem_of_getElem? hj,fun b hb hm=>by
   have:=f3 _ _ hj b hb
   rcases hS hm with h|h<;>omega⟩
  rcases List.mem_append.1 hy with hy|hy
  ·obtain ⟨j, hj⟩ := List.getElem?_of_mem hy
   have hjl:j<P.length:=by
    apply Nat.lt_of_not_le;intro hh;rw[List.getElem?_eq_none hh] at hj;cases hj
   exact .inr (place j (by rw[List.getElem?_append_left hjl];exact hj) (by omega))
  ·rcases List.mem_cons.1 hy with hy | hy
   ·exact .inl hy
   ·obtain ⟨j, hj⟩ := List.getElem?_of_mem hy
    exact .inr (place (P.length+(j+1)) (by rw[List.getElem?_append_right (by omega),Nat.add_sub_cancel_left,List.getElem?_cons_succ];exact hj) (by omega))
 have nets:∀y∈P++a::R,y.nb ∉ ab::z498 a:=fun y hy hm=>by
  have:=f2 y hy
  rcases hS hm with h|h<;>omega
 have nbs:∀y∈P++{a with v:=v',l:=l'}::R,∃z∈P++a::R,y.nb=z.nb∧y.N=z.N:=by
  intro y hy
  rcases others y hy with rfl|⟨h1,_⟩
  ·exact⟨a,ha,rfl,rfl⟩
  ·exact⟨y,h1,rfl,rfl⟩
 refine⟨?_,k'.hab,fun y hy=>?_,fun y hy=>?_,fun y hy=>?_,fun y hy=>?_,fun y hy=>?_,fun b=>if b<h.next then f b else P.length+2,?_,fun y hy=>?_,fun i y hy b hb=>?_⟩
 ·have := k'.row
  rw[armsC_set] at this;rw[z1c9,z110] at this ⊢;exact this
 ·obtain ⟨z, hz, e1, e2⟩ := nbs y hy
  rw[e1,e2];exact⟨(k.net z hz).1,(k.net z hz).2.1.tch t (k.net z hz).2.2 (nets z hz),Nat.lt_of_lt_of_le (k.net z hz).2.2 t.1⟩
 ·rcases others y hy with rfl | ⟨h1, h2⟩
  ·exact k'.sl
  ·exact(k.sl y h1).tch t fun b hb=>h2 b (List.mem_append_left _ hb)
 ·rcases others y hy with rfl | ⟨h1, h2⟩
  ·exact k'.runs
  ·exact(k.runs y h1).tch t fun x hx=>h2 _ (List.mem_append_right _ (List.mem_map_of_mem hx))
 ·rcases others y hy with rfl | ⟨h1, h2⟩
  ·exact k'.nd
  ·exact k.nd y h1
 ·rcases others y hy with rfl | ⟨h1, h2⟩
  ·exact k'.apart
  ·exact k.apart y h1
 ·show (if ab < h.next then f ab else P.length + 2) = 0
  rw[if_pos k.hab,f1]
 ·obtain ⟨z, hz, e1, _⟩ := nbs y hy
  rw[e1];show (if z.nb<h.next then f z.nb else P.length+2)=1;rw[if_pos (k.net z hz).2.2,f2 z hz]
 ·show (if b < h.next then f b else P.length + 2) = i + 2
  by_cases hiP:i=P.length
  ·subst hiP
   have e:y={a with v:=v',l:=l'}:=by simpa using hy.symm
   subst e
   split
   ·rename_i hlt
    rcases List.mem_append.1 hb with hb|hb
    ·rcases hv b hb with hb | hb
     ·exact f4 b (List.mem_append_left _ hb)
     ·omega
    ·rcases hl b hb with hb | hb
     ·exact f4 b (List.mem_append_right _ hb)
     ·omega
   ·rfl
  ·have hy2 : (P ++ a :: R)[i]? = some y := by
    by_cases hlt:i<P.length
    ·rw [List.getElem?_append_left hlt] at hy ⊢
     exact hy
    ·rw [List.getElem?_append_right (by omega)] at hy ⊢
     obtain⟨j,hj⟩:∃j,i - P.length=j+1:=⟨i - P.length - 1,by omega⟩;rw[hj,List.getElem?_cons_succ] at hy ⊢;exact hy
   have hbl:b<h.next:=k.lt b (z6f.2 ⟨y,List.mem_of_getElem? hy2,hb⟩);rw[if_pos hbl];exact f3 _ _ hy2 b hb
end
def z2fa(B:Nat)(az:List ArmT):Prop:=∀a∈az,a.l.length≤B∧∀x∈a.l,x.2.2<B
abbrev WayW:=(Bool×Nat)×Nat
def z350(N:Nt)(c:Nat):List WayW→List WayW
 |[]=>[]
 |x::l=>if z194 N (stepN N x.1 c)=true then z350 N c l else (stepN N x.1 c,x.2)::z350 N c l
def accW(N:Nt)(c:Nat):Option Nat→WayW→Option Nat
 |some f,_=>some f
 |none,x=>if z132 N (stepN N x.1 c)=true then some x.2 else none
def hitW(N:Nt)(c:Nat)(a:Option Nat)(l:List WayW):Option Nat:=l.foldl (accW N c) a
theorem keepX_W{N:Nt}{c:Nat}:∀l:List z19d,(zaf N c l).map (·.2)=z350 N c (l.map (·.2))
 |[]=>rfl
 |x::l=>by
  rw[zaf,List.map_cons,z350, ←keepX_W l]
  split<;>rfl
theorem z3a4{N:Nt}{c:Nat}:∀l:List z19d,(zaf N c l).length≤l.length
 |[]=>Nat.le_refl _
 |x::l=>by
  have:=z3a4 (N:=N) (c:=c) l;rw[zaf,List.length_cons]
  split
  ·omega
  ·rw [List.length_cons]
   omega
theorem hitX_W{N:Nt}{c:Nat}:∀(l:List z19d) (a:Option Nat),z36d N c a l=hitW N c a (l.map (·.2))
 |[],_=>rfl
 |x::l,a=>by
  show z36d N c (accX N c a x) l=hitW N c (accW N c a x.2) (l.map (·.2));rw[hitX_W l]
  cases a<;>rfl
abbrev z331:=Nt×List WayW
def z112(a:ArmT):z331:=(a.N,a.l.map (·.2))
def z395(c at_:Nat)(a:z331):z331:=(a.1,z350 a.1 c (a.2++[((false,0),at_)]))
def hitA(c at_:Nat)(a:z331):Option Nat:=hitW a.1 c none (a.2++[((false,0),at_)])
def z4d(c at_:Nat):List z331→Option (Nat×Nat)×List z331
 |[]=>(none,[])
 |a::r=>match hitA c at_ a with
  |some f=>(some (0,f),z395 c at_ a::r)
  |none=>((z4d c at_ r).1.map (fun z=>(z.1+1,z.2)),z395 c at_ a::(z4d c at_ r).2)
noncomputable def z475(i at_:Nat):Option (Nat×Nat)→List AV
 |some z=>[.int .i64 ((i+z.1:Nat):Int),.int .i64 (z.2:Int),.int .i64 ((at_:Int)+1)]
 |none=>[.int .i64 0,.int .i64 0,.int .i64 0]
section
variable {n d ab byte at_ L hb:Nat}{h:AHeap}{Q:ARes→AHeap→Prop}{k8:AHeap→R}
set_option maxHeartbeats 4000000 in
theorem z1bd(hn:18446744073709551616<n)(hby:byte<256)(ha:at_<90000)(hL:L<1000):
  ∀(R P:List ArmT) (fu:Nat) (H:AHeap),R.length<fu→P.length+R.length=L→ArmsAt H ab (P++R)→z2fa at_ R→HasTz H→zd4 z20a H.ex=false→RowH H h.next z3c9 [.int .i64 0,.int .i64 0,.int .i64 0]→h.next<H.next→h.next≠ab→(∀a∈P++R,a.nb≠h.next)→h.next ∉ z5a (P++R)→
   (∀(H':AHeap) (R':List ArmT),Tch (ab::z5a (P++R)) H H'→ArmsAt H' ab (P++R')→z2fa (at_+1) R'→R'.map z112=(z4d byte at_ (R.map z112)).2→R'.map (·.nb)=R.map (·.nb)→(∀b∈z5a (P++R'),b∈z5a (P++R)∨H.next≤b)→(z4d byte at_ (R.map z112)).1=none→(∀a∈R',zd7 a.v≠[])→Wp (k8 H') Q)→
   (∀(H':AHeap) (R':List ArmT) (z:Nat×Nat),Tch (h.next::ab::z5a (P++R)) H H'→ArmsAt H' ab (P++R')→z2fa (at_+1) R'→R'.map z112=(z4d byte at_ (R.map z112)).2→R'.map (·.nb)=R.map (·.nb)→(∀b∈z5a (P++R'),b∈z5a (P++R)∨H.next≤b)→(z4d byte at_ (R.map z112)).1=some z→Q (.ret (.tup [.agg (z475 P.length at_ (some z)),.bool true])) H')→
   Wp (z10c (world n (d+4)) (.sl ab 0 L 2) (byte:Int) (at_:Int) h (L:Int) k8 fu (P.length:Int) H) Q
 |_,_,0,_,hf,_,_,_,_,_,_,_,_,_,_,_,_=>by omega
 |[],P,fu+1,H,hf,hPL,k,hB,hT,hx,kh,hh,hab,hnb,hbl,hk,hq=>by
  have hPl:P.length=L:=hPL;rw[z14f];unfold zea
  ((with_reducible refine Wp.lett ?_))
  refine y6 (by rw[decide_eq_false_iff_not];omega) ?_;exact hk H [] (Tch.refl _ _) k (fun a ha=>nomatch ha) rfl rfl (fun b hb=>.inl hb) rfl (fun _ h=>nomatch h)
 |a::R,P,fu+1,H,hf,hPL,k,hB,hT,hx,kh,hh,hab,hnb,hbl,hk,hq=>by
  rw[List.length_cons] at hf hPL;have hPl:P.length<L:=by omega
  have hBa:=hB a List.mem_cons_self;obtain⟨ka,hne⟩:=k.at
  obtain⟨v',H1,e1,k1,⟨kv1,kne⟩,t1⟩:=z48d (n:=n) (d:=d) (byte:=byte) (at_:=at_) hT (k.net a (by simp)).1 hn hby ka hne (by omega) (fun x hx=>by
   have:=hBa.2 x hx;omega) (by omega) hx
  have hl1:∀b∈(zaf a.N byte (a.l++[(H.next,(false,0),at_)])).map (·.1),b∈a.l.map (·.1)∨H.next≤b:=by
   intro b hb;obtain⟨y,hy,rfl⟩:=List.mem_map.1 hb;obtain⟨x,hx,rfl⟩:=z22d hy;show x.1∈_∨H.next≤x.1
   rcases List.mem_append.1 hx with hx|hx
   ·exact .inl (List.mem_map_of_mem hx)
   ·rw [List.mem_singleton.1 hx]
    exact .inr (Nat.le_refl _)
  have kk:=k.step k1 (fun b hb=>.inr (kv1 b hb)) hl1 t1
  have hr:z36d a.N byte none (a.l++[(H.next,(false,0),at_)])=hitA byte at_ (z112 a):=by
   rw[hitX_W,List.map_append];rfl
  have ea:z112 {a with v:=v',l:=zaf a.N byte (a.l++[(H.next,(false,0),at_)])}=z395 byte at_ (z112 a):=by
   show (a.N,(zaf a.N byte (a.l++[(H.next,(false,0),at_)])).map (·.2))=_;rw[keepX_W,List.map_append];rfl
  have hB1:(zaf a.N byte (a.l++[(H.next,(false,0),at_)])).length≤at_+1∧∀x∈zaf a.N byte (a.l++[(H.next,(false,0),at_)]),x.2.2<at_+1:=by
   refine⟨Nat.le_trans (z3a4 _) (by rw[List.length_append,List.length_singleton];omega),fun y hy=>?_⟩;obtain⟨x,hx,rfl⟩:=z22d hy;show x.2.2<at_+1
   rcases List.mem_append.1 hx with hx|hx
   ·have := hBa.2 x hx
    omega
   ·rw [List.mem_singleton.1 hx]
    exact Nat.lt_succ_self _
  have sub1:∀b∈ab::z498 a,b∈ab::z5a (P++a::R):=fun b hb=>by
   rcases List.mem_cons.1 hb with hb|hb
   ·rw [hb]
    exact List.mem_cons_self
   ·exact List.mem_cons_of_mem _ (z6f.2 ⟨a,by simp,hb⟩)
  have sub2:∀b∈z5a (P++{a with v:=v',l:=zaf a.N byte (a.l++[(H.next,(false,0),at_)])}::R),b∈z5a (P++a::R)∨H.next≤b:=by
   intro b hb;obtain⟨y,hy,hb⟩:=z6f.1 hb
   rcases List.mem_append.1 hy with hy|hy
   ·exact .inl (z6f.2 ⟨y,List.mem_append_left _ hy,hb⟩)
   rcases List.mem_cons.1 hy with rfl|hy
   ·rcases List.mem_append.1 hb with hb | hb
    ·exact .inr (kv1 b hb)
    ·rcases hl1 b hb with hb | hb
     ·exact .inl (z6f.2 ⟨a,by simp,List.mem_append_right _ hb⟩)
     ·exact .inr hb
   ·exact .inl (z6f.2 ⟨y,by simp[hy],hb⟩)
  have t1':Tch (ab::z5a (P++a::R)) H H1:=t1.mono fun b hb=>.inl (sub1 b hb)
  have hhS:h.next ∉ ab::z5a (P++a::R):=fun hb=>by
   rcases List.mem_cons.1 hb with hb|hb
   ·exact hab hb
   ·exact hbl hb
  have kh1:=kh.tch t1' hh hhS
  have hTz1:HasTz H1:=hT.tch t1' (fun hb=>by
   rcases List.mem_cons.1 hb with hb|hb
   ·exact z248 hT k.row hb
   ·obtain ⟨y, hy, hb⟩ := z6f.1 hb
    rcases List.mem_append.1 hb with hb|hb
    ·rcases k.sl y hy with ⟨e, _⟩ | ⟨c, rest, e, _, g, _⟩
     ·rw [e] at hb
      exact nomatch hb
     ·rw [e] at hb
      exact z248 hT g (List.mem_singleton.1 hb)
    ·obtain ⟨x, hx, e⟩ := List.mem_map.1 hb
     exact z248 hT (k.runs y hy x hx).1 e.symm)
  have hx1:zd4 z20a H1.ex=false:=by rw[t1.2.1];exact hx
  have i1:=z25d (b:=ab) hPl;have el:(P.length:Int)+1=((P.length+1:Nat):Int):=by omega
  rw[z14f];unfold zea
  ((with_reducible refine Wp.lett ?_))
  refine y8 (by rw[decide_eq_true_eq];omega) ?_;refine Wp.obind i1 ?_;refine Wp.callN e1 ?_;refine Wp.obind (z17d _ _) (Wp.obind (z4 _ _) (Wp.obind (z17c _ _ _) (Wp.obind (z5 _) ?_)));rw[hr];have hh1:h.next<H1.next:=Nat.lt_of_lt_of_le hh t1.1;cases hz:hitA byte at_ (z112 a) with
  |some f=>
   refine y8 rfl ?_
   (((with_reducible refine ye ?_ ?_ ?_);omega;omega))
   rw[z10];refine Wp.stAll kh1 rfl rfl rfl fun H2 k2 t2 n2=>?_;refine Wp.obind (y12 k2 rfl) ?_;refine Wp.ret ?_
   have e9:z4d byte at_ ((a::R).map z112)=(some (0,f),z395 byte at_ (z112 a)::R.map z112):=by
    rw[List.map_cons,z4d,hz]
   have:=hq H2 ({a with v:=v',l:=zaf a.N byte (a.l++[(H.next,(false,0),at_)])}::R) (0,f) ((t1'.mono fun b hb=>.inl (List.mem_cons_of_mem _ hb)).trans (t2.mono fun b hb=>.inl (by rw[List.mem_singleton.1 hb];exact List.mem_cons_self))) (kk.tch t2 (by simpa using hab.symm) (fun y hy hm=>?_) (fun b hb hm=>?_)) (fun y hy=>?_) (by rw[e9,List.map_cons,ea]) rfl sub2 (by rw[e9])
   ·exact this
   ·obtain rfl | hy : y = { a with v := v', l := zaf a.N byte (a.l ++ [(H.next, (false, 0), at_)]) } ∨ y ∈ P ++ a :: R := by
     rcases List.mem_append.1 hy with hy|hy
     ·exact .inr (List.mem_append_left _ hy)
     rcases List.mem_cons.1 hy with hy|hy
     ·exact .inl hy
     ·exact .inr (by simp[hy])
    ·exact hnb a (by simp) (List.mem_singleton.1 hm)
    ·exact hnb y hy (List.mem_singleton.1 hm)
   ·have hm := List.mem_singleton.1 hm
    subst hm
    rcases sub2 _ hb with hb|hb
    ·exact hbl hb
    ·omega
   ·rcases List.mem_cons.1 hy with rfl | hy
    ·exact hB1
    ·have := hB y (List.mem_cons_of_mem _ hy)
     exact⟨by omega,fun x hx=>Nat.lt_succ_of_lt (this.2 x hx)⟩
  |none=>
   refine y6 rfl ?_
   (((with_reducible refine ye ?_ ?_ ?_);omega;omega))
   rw[el]
   have e9:z4d byte at_ ((a::R).map z112)=((z4d byte at_ (R.map z112)).1.map (fun z=>(z.1+1,z.2)),z395 byte at_ (z112 a)::(z4d byte at_ (R.map z112)).2):=by
    rw[List.map_cons,z4d,hz]
   have hsh:P++{a with v:=v',l:=zaf a.N byte (a.l++[(H.next,(false,0),at_)])}::R=(P++[{a with v:=v',l:=zaf a.N byte (a.l++[(H.next,(false,0),at_)])}])++R:=by simp
   rw[hsh] at kk sub2;have hPL1:(P++[{a with v:=v',l:=zaf a.N byte (a.l++[(H.next,(false,0),at_)])}]).length=P.length+1:=by rw[List.length_append,List.length_singleton]
   rw[←hPL1]
   have trS:∀b∈ab::z5a ((P++[{a with v:=v',l:=zaf a.N byte (a.l++[(H.next,(false,0),at_)])}])++R),b∈ab::z5a (P++a::R)∨H.next≤b:=fun b hb=>by
    rcases List.mem_cons.1 hb with hb|hb
    ·rw [hb]
     exact .inl List.mem_cons_self
    ·exact(sub2 b hb).imp (fun h=>List.mem_cons_of_mem _ h) id
   have reas:∀R':List ArmT,(P++[{a with v:=v',l:=zaf a.N byte (a.l++[(H.next,(false,0),at_)])}])++R'=P++{a with v:=v',l:=zaf a.N byte (a.l++[(H.next,(false,0),at_)])}::R':=fun R'=>by simp
   have hB2:∀{R':List ArmT},z2fa (at_+1) R'→z2fa (at_+1) ({a with v:=v',l:=zaf a.N byte (a.l++[(H.next,(false,0),at_)])}::R'):=fun hR y hy=>by
    rcases List.mem_cons.1 hy with rfl|hy
    ·exact hB1
    ·exact hR y hy
   have sub3:∀{R':List ArmT},(∀b∈z5a ((P++[{a with v:=v',l:=zaf a.N byte (a.l++[(H.next,(false,0),at_)])}])++R'),b∈z5a ((P++[{a with v:=v',l:=zaf a.N byte (a.l++[(H.next,(false,0),at_)])}])++R)∨H1.next≤b)→∀b∈z5a (P++{a with v:=v',l:=zaf a.N byte (a.l++[(H.next,(false,0),at_)])}::R'),b∈z5a (P++a::R)∨H.next≤b:=fun hR b hb=>by
    rw[←reas] at hb
    rcases hR b hb with hb|hb
    ·exact sub2 b hb
    ·exact .inr (Nat.le_trans t1.1 hb)
   refine z1bd hn hby ha hL R _ fu H1 (by omega) (by omega) kk (fun y hy=>hB y (List.mem_cons_of_mem _ hy)) hTz1 hx1 kh1 hh1 hab (fun y hy=>?_) (fun hb=>?_) (fun H' R' t k' b' e' m' s' z' w'=>?_) (fun H' R' z t k' b' e' m' s' z'=>?_)
   ·rcases List.mem_append.1 hy with hy | hy
    ·rcases List.mem_append.1 hy with hy | hy
     ·exact hnb y (List.mem_append_left _ hy)
     ·rw [List.mem_singleton.1 hy]
      exact hnb a (by simp)
    ·exact hnb y (by simp[hy])
   ·rcases sub2 _ hb with hb | hb
    ·exact hbl hb
    ·omega
   ·refine hk H' ({a with v:=v',l:=zaf a.N byte (a.l++[(H.next,(false,0),at_)])}::R') (t1'.trans' t trS) (by rw[←reas];exact k') (hB2 b') (by rw[e9,List.map_cons,ea,e']) (by rw[List.map_cons,List.map_cons,m']) (sub3 s') (by rw[e9,z'];rfl) (fun y hy=>by
     rcases List.mem_cons.1 hy with rfl|hy
     ·exact kne
     ·exact w' y hy)
   ·have := hq H' ({ a with v := v', l := zaf a.N byte (a.l ++ [(H.next, (false, 0), at_)]) } :: R') (z.1 + 1, z.2) ((t1'.mono fun b hb => .inl (List.mem_cons_of_mem _ hb)).trans' t (fun b hb => by
     rcases List.mem_cons.1 hb with hb|hb
     ·rw [hb]
      exact .inl List.mem_cons_self
     ·exact(trS b hb).imp (fun h=>List.mem_cons_of_mem _ h) id)) (by rw[←reas];exact k') (hB2 b') (by rw[e9,List.map_cons,ea,e']) (by rw[List.map_cons,List.map_cons,m']) (sub3 s') (by rw[e9,z'];rfl)
    rw[hPL1]
    have eh:z475 (P.length+1) at_ (some z)=z475 P.length at_ (some (z.1+1,z.2)):=by
     show [AV.int .i64 ((P.length+1+z.1:Nat):Int),_,_]=[AV.int .i64 ((P.length+(z.1+1):Nat):Int),_,_];rw[show P.length+1+z.1=P.length+(z.1+1) by omega]
    rw[eh];exact this
end
abbrev TArms:Nat:=58
abbrev TPat:Nat:=51
section
variable {n d ab byte at_ L:Nat}{h:AHeap}{az:List ArmT}
theorem ArmsAt.tz(k:ArmsAt h ab az)(hT:HasTz h):0 ∉ ab::z5a az:=fun hb=>by
 rcases List.mem_cons.1 hb with hb|hb
 ·exact z248 hT k.row hb
 ·obtain ⟨y, hy, hb⟩ := z6f.1 hb
  rcases List.mem_append.1 hb with hb|hb
  ·rcases k.sl y hy with ⟨e, _⟩ | ⟨c, rest, e, _, g, _⟩
   ·rw [e] at hb
    exact nomatch hb
   ·rw [e] at hb
    exact z248 hT g (List.mem_singleton.1 hb)
  ·obtain ⟨x, hx, e⟩ := List.mem_map.1 hb
   exact z248 hT (k.runs y hy x hx).1 e.symm
theorem z270(hn:18446744073709551616<n)(hby:byte<256)(ha:at_<90000)(hL:az.length<1000)(k:ArmsAt h ab az)(hB:z2fa at_ az)(hT:HasTz h)(hx:h.ex=[]):
  ∃h' R',world n (d+5) 30 [.sl ab 0 az.length 2,.int .u8 (byte:Int),.int .i64 (at_:Int)] h=some (.ret (.tup [.agg (z475 0 at_ (z4d byte at_ (az.map z112)).1),.bool (z4d byte at_ (az.map z112)).1.isSome]),h')∧Tch (ab::z5a az) h h'∧ArmsAt h' ab R'∧z2fa (at_+1) R'∧R'.map z112=(z4d byte at_ (az.map z112)).2∧R'.map (·.nb)=az.map (·.nb)∧(∀b∈z5a R',b∈z5a az∨h.next≤b)∧((z4d byte at_ (az.map z112)).1=none→∀a∈R',zd7 a.v≠[]):=by
 suffices hK:Wp (world n (d+5) 30 [.sl ab 0 az.length 2,.int .u8 (byte:Int),.int .i64 (at_:Int)] h) fun r h'=>∃R',r=.ret (.tup [.agg (z475 0 at_ (z4d byte at_ (az.map z112)).1),.bool (z4d byte at_ (az.map z112)).1.isSome])∧Tch (ab::z5a az) h h'∧ArmsAt h' ab R'∧z2fa (at_+1) R'∧R'.map z112=(z4d byte at_ (az.map z112)).2∧R'.map (·.nb)=az.map (·.nb)∧(∀b∈z5a R',b∈z5a az∨h.next≤b)∧((z4d byte at_ (az.map z112)).1=none→∀a∈R',zd7 a.v≠[]) by
  obtain⟨_,h',e,R',rfl,k⟩:=hK;exact⟨h',R',e,k⟩
 rw[z371];unfold z142;refine y9 (Mem.nil [] h) fun h2 M2=>?_;have t2:=M2.tch;have hlt:=M2.at0.2.1;have k2:=k.tch t2 (by simp) (fun _ _=>by simp) (fun _ _=>by simp)
 have habn:h.next≠ab:=by
  have:=k.hab;omega
 have hbl:h.next ∉ z5a az:=fun hb=>by
  have:=k.lt _ hb;omega
 have hnbs:∀a∈az,a.nb≠h.next:=fun a ha=>by
  have:=(k.net a ha).2.2;omega
 refine Wp.obind (show z15f (.sl ab 0 az.length 2)=some (az.length:Int) from rfl) ?_;refine y1e fun k8 ek8=>?_;have n2:=t2.1;refine z1bd (n:=n) (d:=d) (h:=h) (L:=az.length) hn hby ha hL az [] n h2 (by omega) (by simp) k2 hB (hT.tch t2 (by simp)) (by rw[t2.2.1,hx];rfl) M2.at0.1 hlt habn hnbs hbl (fun H' R' t k' b' e' m' s' z' w'=>?_) (fun H' R' z t k' b' e' m' s' z'=>?_)
 ·rw [List.nil_append] at t k' s'
  have hS:h.next ∉ ab::z5a az:=fun hb=>by
   rcases List.mem_cons.1 hb with hb|hb
   ·exact habn hb
   ·exact hbl hb
  have kh:=M2.at0.1.tch t hlt hS;rw[ek8];rw[z10];refine Wp.stAll kh rfl rfl rfl fun H2 kk2 tt nn=>?_;refine Wp.obind (y12 kk2 rfl) ?_;rw[z'];refine Wp.ret ⟨R',rfl,?_,k'.tch tt ?_ (fun y hy hm=>?_) (fun b hb hm=>?_),b',e',m',fun b hb=>(s' b hb).imp id fun hh=>by omega,fun _=>w'⟩
  ·refine ((t2.mono fun b hb => nomatch hb).trans t).trans' tt fun b hb => ?_
   rw[List.mem_singleton.1 hb];exact .inr (Nat.le_refl _)
  ·intro hm
   exact habn (List.mem_singleton.1 hm).symm
  ·have : y.nb ∈ R'.map (·.nb) := List.mem_map_of_mem hy
   rw[m'] at this;obtain⟨w,hw,e⟩:=List.mem_map.1 this;exact hnbs w hw (e.trans (List.mem_singleton.1 hm))
  ·have hm := List.mem_singleton.1 hm
   subst hm
   rcases s' _ hb with hb|hb
   ·exact hbl hb
   ·omega
 ·rw [List.nil_append] at t k' s'
  rw[z'];refine⟨R',rfl,?_,k',b',e',m',fun b hb=>(s' b hb).imp id fun hh=>by omega,fun hh=>by cases hh⟩;refine(t2.mono fun b hb=>nomatch hb).trans' t fun b hb=>?_
  rcases List.mem_cons.1 hb with hb|hb
  ·rw [hb]
   exact .inr (Nat.le_refl _)
  ·exact .inl hb
end
theorem bldArm(b:Nat):z2d6 Tryd.prog z3ca [(0,.ptr b 0)]=some [.ptr b 0,.nsl]:=by kernel_rfl
theorem bldSlArm(h:AHeap)(b:Nat):z154 Tryd.prog h TArms 1 [(0,.agg [.ptr b 0,.nsl])]=zc8 h z3ca [.ptr b 0,.nsl] 1 2:=by kernel_rfl
theorem fitArm:fitB Tryd.prog z3ca 32=true:=by kernel_rfl
def ArmOk(n d:Nat)(p:Int×zf)(t:Nd):Prop:=TreeP p.2 p.1 (.ok t)∧p.2.length≤64∧z164 t=false∧∀h:AHeap,h.ex=[]→(∃nb h',world n (d+1) 25 [.agg [.int .i64 p.1,z1f p.2]] h=some (.ret (.tup [.ptr nb 0,.int .i64 0]),h')∧Abs.Mem [] h h' [(nb,TNet,netC (zde t))])∧world n (d+1) 44 [.agg [.int .i64 p.1,z1f p.2]] h=some (.ret (.bool false),h)
inductive ArmsOk (n d:Nat):List (Int×zf)→List Nd→Prop
 |nil:ArmsOk n d [] []
 |cons {p:Int×zf} {t:Nd} {ps:List (Int×zf)} {ts:List Nd} (h:ArmOk n d p t) (k:ArmsOk n d ps ts):ArmsOk n d (p::ps) (t::ts)
theorem ArmsOk.len{n d:Nat}{ps:List (Int×zf)}{ts:List Nd}(k:ArmsOk n d ps ts):ts.length=ps.length:=by
 induction k with
 |nil=>rfl
 |cons _ _ ih=>rw[List.length_cons,List.length_cons,ih]
noncomputable def patC(p:Int×zf):List AV:=[.int .i64 p.1,z1f p.2]
abbrev z2f9:=List (Nat×Nd)
noncomputable def netsR(D:z2f9):List zd8:=D.map fun x=>(x.1,TNet,netC (zde x.2))
noncomputable def z48e(D:z2f9):List (List AV):=D.map fun x=>[.ptr x.1 0,.nsl]
section
variable {n d:Nat}{h0:AHeap}{v:AV}{ps:List (Int×zf)}{Q:ARes→AHeap→Prop}{k15:AV→AHeap→R}
theorem z2da(hx:h0.ex=[])(kp:Slc h0.next h0 2 v (ps.map patC))(hps:ps.length≤8):
  ∀(pre:List (Int×zf)) (ts:List Nd) (post:List (Int×zf)) (i fu:Nat) (D:z2f9) (v4:AV) (T:List zd8) (H:AHeap),ArmsOk n d pre ts→ps.drop i=pre++post→pre.length<fu→D.length=i→GrowT z3ca 2 (z48e D) v4 T→Abs.Mem [] h0 H (netsR D++T)→
   (∀(D':z2f9) (v':AV) (T':List zd8) (H':AHeap) (fu':Nat),D'.map (·.2)=D.map (·.2)++ts→GrowT z3ca 2 (z48e D') v' T'→Abs.Mem [] h0 H' (netsR D'++T')→fu'+pre.length=fu→Wp (za5 (world n (d+1)) v (ps.length:Int) k15 fu' v' ((i+pre.length:Nat):Int) H') Q)→
   Wp (za5 (world n (d+1)) v (ps.length:Int) k15 fu v4 (i:Int) H) Q
 |_,_,_,_,0,_,_,_,_,_,_,hf,_,_,_,_=>by omega
 |[],ts,post,i,fu+1,D,v4,T,H,ka,hd,hf,hD,g,M,hk=>by
  cases ka
  exact hk D v4 T H (fu+1) (by rw[List.append_nil]) g M rfl
 |p::pre,ts,post,i,fu+1,D,v4,T,H,ka,hd,hf,hD,g,M,hk=>by
  cases ka with
  |cons ha ka=>
   rename_i t ts;rw[List.length_cons] at hf;obtain⟨hi,hp,hd2⟩:=z153 hd;have hxH:∀{h1:AHeap} {rs:List zd8},Abs.Mem [] h0 h1 rs→h1.ex=[]:=fun M=>by rw[M.ex,hx]
   obtain⟨b,hb,x1,y1⟩:=(kp.tch M.tch (Nat.le_refl _) (by simp)).row (i:=i) (by rw[List.length_map];exact hi);rw[List.getElem_map,hp] at y1;have el:(i:Int)+1=((i+1:Nat):Int):=by omega
   have o2:(patC p).all AV.one=true:=rfl;rw[z11b];unfold zc1
   ((with_reducible refine Wp.lett ?_))
   refine y8 (by rw[decide_eq_true_eq];omega) ?_;refine Wp.obind x1 (Wp.obind y1 ?_);refine y9 M fun h2 M2=>?_;rw[z10];refine y11 M2 rfl rfl o2 fun h3 M3=>?_;refine y17 M3 rfl ?_;obtain⟨⟨nb,h4,e4,N4⟩,_⟩:=ha.2.2.2 h3 (hxH M3);refine Wp.callN e4 ?_;have M4:=Mem.frame (xs:=[]) M3 N4;simp only[List.cons_append,List.nil_append] at M4;refine Wp.obind (z17d _ _) (Wp.obind (z17c _ _ _) (Wp.obind (z4 _ _) ?_))
   ((with_reducible refine Wp.lett ?_))
   refine y1e fun j33 ej33=>?_;refine y6 rfl ?_;refine y26 M4 rfl ?_;refine Wp.callN (ha.2.2.2 h4 (hxH M4)).2 ?_;refine Wp.obind (z5 _) ?_;rw[ej33];refine y6 rfl ?_;refine Wp.obind (bldArm _) ?_
   have M5:Abs.Mem [] h0 h4 ((nb,TNet,netC (zde t))::netsR D++T):=by
    refine⟨fun x hx=>M4.row x ?_,?_,M4.tch⟩
    ·rw [List.cons_append] at hx
     rcases List.mem_cons.1 hx with hx|hx
     ·rw [hx]
      exact List.mem_cons_self
     ·exact List.mem_cons_of_mem _ (List.mem_cons_of_mem _ hx)
    ·have ap := M4.apart
     rw[List.map_cons,List.map_cons] at ap;rw[List.cons_append,List.map_cons];exact ap.sublist ((List.sublist_cons_self _ _).cons_cons _)
   refine y2f M5 (bldSlArm _ _) rfl (by rw[hx];rfl) fun h6 M6=>?_;have hDl:(z48e D).length=i:=by rw[z48e,List.length_map,hD]
   refine Wp.grow (P:=Tryd.prog) (sz:=2) (B:=32) M6 g (by kernel_rfl) (by kernel_rfl) (by kernel_rfl) fitArm (by rw[hx];rfl) rfl rfl (by rw[hDl];omega) (by rw[hDl];omega) fun v7 h7 T7 g7 M7=>?_
   (((with_reducible refine ye ?_ ?_ ?_);omega;omega))
   rw[el]
   have e9:∀D:z2f9,z48e (D++[(nb,t)])=z48e D++[[.ptr nb 0,.nsl]]:=fun D=>by
    unfold z48e;rw[List.map_append];rfl
   refine z2da hx kp hps pre ts post (i+1) fu (D++[(nb,t)]) v7 T7 h7 ka hd2 (by omega) (by rw[List.length_append,List.length_singleton,hD]) (by rw[e9];exact g7) ?_ fun D' v' T' H' fu' a1 a2 a3 a4=>?_
   ·refine M7.perm ?_
    unfold netsR;rw[List.map_append];exact(List.perm_append_comm (l₁:=[(nb,TNet,netC (zde t))])).append_right _ |>.symm
   ·have := hk D' v' T' H' fu' (by rw [a1, List.map_append, List.append_assoc]; rfl) a2 a3 (by rw [List.length_cons]; omega)
    rw[List.length_cons,show i+(pre.length+1)=i+1+pre.length by omega] at this;exact this
end
noncomputable def z1c6(D:z2f9):List ArmT:=D.map fun x=>⟨x.1,zde x.2,.nsl,[]⟩
theorem fresh_C:∀D:z2f9,z110 (z1c6 D)=(z48e D).flatten
 |[]=>rfl
 |x::D=>by
  show [AV.ptr x.1 0,.nsl]++z110 (z1c6 D)=[AV.ptr x.1 0,.nsl]++(z48e D).flatten;rw[fresh_C D]
theorem z3ab:∀D:z2f9,z5a (z1c6 D)=[]
 |[]=>rfl
 |x::D=>by
  show z498 ⟨x.1,zde x.2,.nsl,[]⟩++z5a (z1c6 D)=[];rw[z3ab D];rfl
theorem fresh_abs(D:z2f9):(z1c6 D).map z112=(D.map (·.2)).map fun t=>(zde t,[]):=by
 unfold z1c6;rw[List.map_map,List.map_map];rfl
def Fresh(h h':AHeap)(ab:Nat)(az:List ArmT)(ts:List Nd):Prop:=Tch [] h h'∧ArmsAt h' ab az∧az.map z112=ts.map (fun t=>(zde t,[]))∧h.next≤ab∧z5a az=[]∧(∀a∈az,h.next≤a.nb)∧z2fa 0 az
theorem fresh_of{h H:AHeap}{D:z2f9}{v:AV}{T:List zd8}{ts:List Nd}(g:GrowT z3ca 2 (z48e D) v T)(M:Abs.Mem [] h H (netsR D++T))(hD:D.map (·.2)=ts)(hne:ts≠[]):∃ab,v=.sl ab 0 (z1c6 D).length 2∧Fresh h H ab (z1c6 D) ts:=by
 rcases g.2 with⟨h1,_,_⟩|⟨_,c,h2,rfl⟩
 ·have : D = [] := List.map_eq_nil_iff.1 h1
  rw[this] at hD;exact absurd hD.symm hne
 refine⟨c,?_,M.tch,?_,?_,?_,z3ab D,fun a ha=>?_,fun a ha=>?_⟩
 ·rw [h2]
  unfold z48e z1c6;rw[List.length_map,List.length_map]
 ·have mc := M.row (c, z3ca, (z48e D).flatten) (by simp)
  have ap:=M.apart;rw[List.map_append,List.nodup_append] at ap
  have nets:∀a∈z1c6 D,∃x∈D,a=⟨x.1,zde x.2,.nsl,[]⟩:=fun a ha=>by
   obtain⟨x,hx,e⟩:=List.mem_map.1 ha;exact⟨x,hx,e.symm⟩
  refine⟨by rw[fresh_C];exact mc.1,mc.2.1,fun a ha=>?_,fun a ha=>?_,fun a ha=>?_,fun a ha=>?_,fun a ha=>?_,fun b=>if b=c then 0 else 1,if_pos rfl,fun a ha=>?_,fun i a ha b hb=>?_⟩
  ·obtain ⟨x, hx, rfl⟩ := nets a ha
   have:=M.row (x.1,TNet,netC (zde x.2)) (List.mem_append_left _ (List.mem_map_of_mem hx));exact⟨z429 _,this.1,this.2.1⟩
  ·obtain ⟨x, hx, rfl⟩ := nets a ha
   exact .inl ⟨rfl,rfl,rfl⟩
  ·obtain ⟨x, hx, rfl⟩ := nets a ha
   exact fun _ h=>nomatch h
  ·obtain ⟨x, hx, rfl⟩ := nets a ha
   exact .nil
  ·obtain ⟨x, hx, rfl⟩ := nets a ha
   exact fun _ h=>nomatch h
  ·obtain ⟨x, hx, rfl⟩ := nets a ha
   refine if_neg fun e=>?_;exact ap.2.2 x.1 (List.mem_map_of_mem (List.mem_map_of_mem (f:=fun x:Nat×Nd=>((x.1,TNet,netC (zde x.2)):zd8)) hx)) c (by simp) e
  ·obtain ⟨x, hx, rfl⟩ := nets a (List.mem_of_getElem? ha)
   exact nomatch hb
 ·rw[fresh_abs,hD]
 ·exact(M.row (c,z3ca,(z48e D).flatten) (by simp)).2.2.resolve_left (by simp)
 ·obtain ⟨x, hx, rfl⟩ := List.mem_map.1 ha
  exact(M.row (x.1,TNet,netC (zde x.2)) (List.mem_append_left _ (List.mem_map_of_mem hx))).2.2.resolve_left (by simp)
 ·obtain ⟨x, hx, rfl⟩ := List.mem_map.1 ha
  exact⟨Nat.le_refl _,fun _ h=>nomatch h⟩
def May(n d:Nat)(ps:List (Int×zf))(ts:List Nd):Prop:=1≤ps.length∧ps.length≤8∧ArmsOk n d ps ts
section
variable {n d:Nat}{h:AHeap}{v:AV}{ps:List (Int×zf)}{ts:List Nd}{s:zf}
theorem z3c0(hn:1000<n)(k:May n d ps ts)(hx:h.ex=[])(kp:Slc h.next h 2 v (ps.map patC)):∃ab h' az,world n (d+2) 29 [v] h=some (.ret (.tup [.sl ab 0 az.length 2,.int .i64 0]),h')∧Fresh h h' ab az ts:=by
 obtain⟨k1,k2,k3⟩:=k
 suffices hK:Wp (world n (d+2) 29 [v] h) fun r h'=>∃ab az,r=.ret (.tup [.sl ab 0 az.length 2,.int .i64 0])∧Fresh h h' ab az ts by
  obtain⟨_,h',e,ab,az,rfl,k⟩:=hK;exact⟨ab,h',az,e,k⟩
 rw[z2e8];unfold z104;have e1:=kp.len;rw[List.length_map] at e1;have q1:((ps.length:Int) == 0)=false:=by rw[beq_eq_false_iff_ne];omega
 have q2:decide ((ps.length:Int)>8)=false:=by rw[decide_eq_false_iff_not];omega
 refine Wp.obind e1 ?_;rw[q1];refine y1e fun t11 et=>?_;refine y1e fun j16 ej=>?_;subst et;refine y6 rfl ?_;refine Wp.obind e1 ?_;rw[q2];refine y1e fun t15 et=>?_;subst et;rw[ej];refine y6 rfl ?_;refine Wp.obind e1 ?_;refine y1e fun k15 ek=>?_;refine z2da hx kp k2 ps ts [] 0 n [] .nsl [] h k3 (by rw[List.append_nil];rfl) (by omega) rfl (GrowT.nil _ _) (Mem.nil [] h) fun D' v' T' H' fu' a1 a2 a3 a4=>?_
 obtain⟨ab,e5,fr⟩:=fresh_of (ts:=ts) a2 a3 a1 (fun e=>by
  have:=k3.len;rw[e] at this;have:0=ps.length:=this;omega)
 obtain⟨fu',rfl⟩:∃f,fu'=f+1:=⟨fu' - 1,by omega⟩;rw[z11b];unfold zc1
 ((with_reducible refine Wp.lett ?_))
 refine y6 (by rw[decide_eq_false_iff_not];omega) ?_;rw[ek,e5];exact Wp.ret ⟨ab,z1c6 D',rfl,fr⟩
def z129:List z331→zf→Nat→Option (Nat×Nat×Nat)
 |_,[],_=>none
 |A,c::s,i=>match (z4d c.toNat i A).1 with
  |some z=>some (z.1,z.2,i+1)
  |none=>z129 (z4d c.toNat i A).2 s (i+1)
noncomputable def z272:Option (Nat×Nat×Nat)→List AV
 |some z=>[.int .i64 (z.1:Int),.int .i64 (z.2.1:Int),.int .i64 (z.2.2:Int)]
 |none=>[.int .i64 0,.int .i64 0,.int .i64 0]
theorem hit_first{i:Nat}{z:Nat×Nat}:z475 0 i (some z)=z272 (some (z.1,z.2,i+1)):=by
 show [AV.int .i64 ((0+z.1:Nat):Int),_,AV.int .i64 ((i:Int)+1)]=[AV.int .i64 (z.1:Int),_,AV.int .i64 ((i+1:Nat):Int)];rw[Nat.zero_add];rfl
theorem z25e(r:Option (Nat×Nat×Nat)):(z272 r).length=3:=by cases r<;>rfl
theorem z47c(r:Option (Nat×Nat×Nat)):(z272 r).all AV.one=true:=by cases r<;>rfl
theorem z31e{h0:AHeap}{ab L:Nat}{k20:AHeap→R}{Q:ARes→AHeap→Prop}(hn:18446744073709551616<n)(hs:s.length<80000)(hL:L<1000):
  ∀(m i fu:Nat) (az:List ArmT) (H:AHeap),m<fu→i+m=s.length→az.length=L→ArmsAt H ab az→z2fa i az→HasTz H→H.ex=[]→RowH H h.next z3c9 [.int .i64 0,.int .i64 0,.int .i64 0]→h.next<H.next→h.next≠ab→(∀a∈az,a.nb≠h.next)→h.next ∉ z5a az→h0.next≤h.next→h0.next≤ab→(∀b∈z5a az,h0.next≤b)→Tch [] h0 H→
   (∀H',Tch [] h0 H'→RowH H' h.next z3c9 [.int .i64 0,.int .i64 0,.int .i64 0]→z129 (az.map z112) (s.drop i) i=none→Wp (k20 H') Q)→
   (∀H' z,Tch [] h0 H'→z129 (az.map z112) (s.drop i) i=some z→Q (.ret (.tup [.agg (z272 (some z)),.bool true])) H')→
   Wp (zeb (world n (d+5)) s h (.sl ab 0 L 2) k20 fu (i:Int) H) Q
 |_,_,0,_,_,hf,_,_,_,_,_,_,_,_,_,_,_,_,_,_,_,_,_=>by omega
 |0,i,fu+1,az,H,hf,hm,hl,k,hB,hT,hx,kh,hh,hab,hnb,hbl,g0,g1,g2,t0,hk,hq=>by
  have ll:=z7b s;rw[z131];unfold zd6
  repeat(first|(with_reducible refine Wp.lett ?_)|((with_reducible refine y6 ?_ ?_;apply decide_eq_false);omega))
  exact hk H t0 kh (by rw[List.drop_of_length_le (by omega)];rfl)
 |m+1,i,fu+1,az,H,hf,hm,hl,k,hB,hT,hx,kh,hh,hab,hnb,hbl,g0,g1,g2,t0,hk,hq=>by
  have ll:=z7b s;have hi:i<s.length:=by omega
  have hxs:=z28f hi;have el:(i:Int)+1=((i+1:Nat):Int):=by omega
  rw[List.drop_eq_getElem_cons hi] at hk hq;subst hl;obtain⟨h1,R',e1,t1,k1,b1,a1,n1,s1,_⟩:=z270 (n:=n) (d:=d) (at_:=i) hn (byte_lt hi) (by omega) hL k hB hT hx
  have hhS:h.next ∉ ab::z5a az:=fun hb=>by
   rcases List.mem_cons.1 hb with hb|hb
   ·exact hab hb
   ·exact hbl hb
  have kh1:=kh.tch t1 hh hhS;have hh1:h.next<h1.next:=Nat.lt_of_lt_of_le hh t1.1
  have t01:Tch [] h0 h1:=t0.trans' t1 fun b hb=>by
   rcases List.mem_cons.1 hb with hb|hb
   ·rw [hb]
    exact .inr g1
   ·exact .inr (g2 b hb)
  have hT1:=hT.tch t1 (k.tz hT);rw[z131];unfold zd6
  ((with_reducible refine Wp.lett ?_))
  refine y8 (by rw[decide_eq_true_eq];omega) ?_;refine Wp.obind hxs ?_;refine Wp.callN e1 ?_;refine Wp.obind (z17d _ _) (Wp.obind (z12 _) (Wp.obind (z17c _ _ _) (Wp.obind (z5 _) ?_)));refine y9 (Mem.nil [] h1) fun h2 M2=>?_;rw[z10];have hfl:∀r,(z475 0 i r).length=3∧(z475 0 i r).all AV.one=true:=fun r=>by cases r<;>exact⟨rfl,rfl⟩
  refine y11 M2 (hfl _).1 rfl (hfl _).2 fun h3 M3=>?_;have kh3:=kh1.tch M3.tch hh1 (by simp);cases hz:(z4d (s[i]).toNat i (az.map z112)).1 with
  |some z=>
   rw[hz] at M3;refine y8 rfl ?_;refine y17 M3 (hfl _).1 ?_;rw[z10];refine Wp.stAll kh3 (hfl _).1 rfl (hfl _).2 fun h4 k4 t4 n4=>?_;refine Wp.obind (y12 k4 (hfl _).1) ?_;rw[hit_first];refine Wp.ret (hq h4 _ ((t01.trans M3.tch).trans' t4 fun b hb=>by rw[List.mem_singleton.1 hb];exact .inr g0) ?_);show z129 (az.map z112) (s[i]::s.drop (i+1)) i=_;rw[z129,hz]
  |none=>
   refine y6 rfl ?_
   (((with_reducible refine ye ?_ ?_ ?_);omega;omega))
   rw[el];have e9:z129 (az.map z112) (s[i]::s.drop (i+1)) i=z129 (R'.map z112) (s.drop (i+1)) (i+1):=by rw[z129,hz,a1]
   have hlR:R'.length=az.length:=by
    have:=congrArg List.length n1;rw[List.length_map,List.length_map] at this;exact this
   have k3:=k1.tch M3.tch (by simp) (fun _ _=>by simp) (fun _ _=>by simp);have hn1:H.next≤h1.next:=t1.1;have hnx:h0.next≤H.next:=t0.1;refine z31e hn hs hL m (i+1) fu R' h3 (by omega) (by omega) hlR k3 b1 (hT1.tch M3.tch (by simp)) (by rw[M3.ex,t1.2.1,hx]) kh3 (Nat.lt_of_lt_of_le hh1 M3.tch.1) hab (fun y hy e=>?_) (fun hb=>?_) g0 g1 (fun b hb=>?_) (t01.trans M3.tch) (fun H' t' q' z'=>hk H' t' q' (by rw[e9];exact z')) (fun H' z t' z'=>hq H' z t' (by rw[e9];exact z'))
   ·have : y.nb ∈ R'.map (·.nb) := List.mem_map_of_mem hy
    rw[n1] at this;obtain⟨w,hw,e2⟩:=List.mem_map.1 this;exact hnb w hw (e2.trans e)
   ·rcases s1 _ hb with hb | hb
    ·exact hbl hb
    ·omega
   ·rcases s1 _ hb with hb | hb
    ·exact g2 b hb
    ·omega
theorem z1d7(hn:18446744073709551620<n)(k:May n (d+3) ps ts)(hx:h.ex=[])(hT:HasTz h)(kp:Slc h.next h 2 v (ps.map patC))(hs:s.length<80000):
  ∃h',world n (d+6) 14 [v,z1f s] h=some (.ret (.tup [.agg (z272 (z129 (ts.map fun t=>(zde t,[])) s 0)),.bool (z129 (ts.map fun t=>(zde t,[])) s 0).isSome]),h')∧Tch [] h h':=by
 suffices hK:Wp (world n (d+6) 14 [v,z1f s] h) fun r h'=>r=.ret (.tup [.agg (z272 (z129 (ts.map fun t=>(zde t,[])) s 0)),.bool (z129 (ts.map fun t=>(zde t,[])) s 0).isSome])∧Tch [] h h' by
  obtain⟨_,h',e,rfl,k⟩:=hK;exact⟨h',e,k⟩
 rw[z334];unfold z11c;refine y9 (Mem.nil [] h) fun h2 M2=>?_;have t2:=M2.tch;have hx2:h2.ex=[]:=by rw[M2.ex,hx]
 have kp2:Slc h2.next h2 2 v (ps.map patC):=kp.keep t2.1 fun b o hb ho=>by rw[t2.2.2 b hb (by simp)];exact ho
 obtain⟨ab,h3,az,e3,fr⟩:=z3c0 (n:=n) (d:=d+3) (by omega) k hx2 kp2;refine Wp.callN e3 ?_;obtain⟨t3,ka,ha,hab,hblk,hnbs,hB⟩:=fr;have hhl:=M2.at0.2.1
 have hlen:az.length=ts.length:=by
  have:=congrArg List.length ha;rw[List.length_map,List.length_map] at this;exact this
 have hts:=k.2.2.len;have h8:=k.2.1;refine Wp.obind (z17d _ _) (Wp.obind (z17c _ _ _) (Wp.obind (z4 _ _) ?_))
 ((with_reducible refine Wp.lett ?_))
 refine y6 rfl ?_;refine y1e fun k20 ek=>?_;have n2:=t2.1;have n3:=t3.1;refine z31e (n:=n) (d:=d) (h:=h) (h0:=h) (s:=s) (by omega) hs (L:=az.length) (by omega) s.length 0 n az h3 (by omega) (Nat.zero_add _) rfl ka hB (hT.tch (t2.trans t3) (by simp)) (by rw[t3.2.1,hx2]) (M2.at0.1.tch t3 hhl (by simp)) (by omega) (by omega) (fun a ha=>by have:=hnbs a ha;omega) (by rw[hblk];simp) (Nat.le_refl _) (by omega) (by rw[hblk];simp) (t2.trans t3) (fun H' t' q' z'=>?_) (fun H' z t' z'=>?_)
 ·rw [ha, List.drop_zero] at z'
  rw[ek,z10,z'];refine Wp.stAll q' rfl rfl rfl fun h4 k4 t4 n4=>?_;refine Wp.obind (y12 k4 rfl) ?_;exact Wp.ret ⟨rfl,t'.trans' t4 fun b hb=>by rw[List.mem_singleton.1 hb];exact .inr (Nat.le_refl _)⟩
 ·rw [ha, List.drop_zero] at z'
  rw[z'];exact⟨rfl,t'⟩
end
abbrev TBy:Nat:=76
theorem bldSlBy(h:AHeap)(v:Int):z154 Tryd.prog h TBy 1 [(0,.int .u8 v)]=zc8 h 5 [.int .u8 v] 1 1:=by kernel_rfl
theorem fitBy:fitB Tryd.prog 5 1=true:=by kernel_rfl
def BufAt(h:AHeap)(v:AV)(u:zf):Prop:=(v=.nsl∧u=[])∨∃c rest,v=.sl c 0 u.length 1∧RowH h c 5 (z82 u++rest)∧c<h.next
section
variable {h h':AHeap}{v:AV}{u:zf}{b1 c0:Nat}
theorem BufAt.tch{S:List Nat}(k:BufAt h v u)(t:Tch S h h')(hd:∀b∈zd7 v,b ∉ S):BufAt h' v u:=by
 rcases k with k|⟨c,rest,rfl,h2,h3⟩
 ·exact .inl k
 ·exact .inr ⟨c,rest,rfl,h2.tch t h3 (hd c (List.mem_singleton.2 rfl)),Nat.lt_of_lt_of_le h3 t.1⟩
theorem BufAt.lt(k:BufAt h v u):∀b∈zd7 v,b<h.next:=by
 rcases k with⟨rfl,_⟩|⟨c,rest,rfl,_,h3⟩
 ·exact fun b hb=>nomatch hb
 ·intro b hb
  rw[List.mem_singleton.1 hb];exact h3
theorem BufAt.len(k:BufAt h v u):z15f v=some (u.length:Int):=by
 rcases k with⟨rfl,rfl⟩|⟨c,rest,rfl,_⟩<;>rfl
theorem BufAt.push(k:BufAt h v u)(kr:RowH h b1 5 [.int .u8 (c0:Int)])(hc0:c0<256)(hm:u.length<1000000)(hx:h.ex=[]):
  ∃h',z76 Tryd.prog h TBy TBy v (.sl b1 0 1 1)=some (.val (.sl h.next 0 (u.length+1) 1),h')∧BufAt h' (.sl h.next 0 (u.length+1) 1) (u++[UInt8.ofNat c0])∧h.next<h'.next∧Tch (zd7 v) h h':=by
 have he:Abs.elemOf Tryd.prog TBy=some 5:=by kernel_rfl
 have hu:z26d Tryd.prog TBy=true:=by kernel_rfl
 have hsz:Tryd.prog.cellsOf 5=1:=by kernel_rfl
 have hex:zd4 5 h.ex=false:=by rw[hx];rfl
 have eb:z82 (u++[UInt8.ofNat c0])=z82 u++[.int .u8 (c0:Int)]:=by
  rw[z23b];show z82 u++[AV.int .u8 ((UInt8.ofNat c0).toNat:Int)]=_;rw[UInt8.toNat_ofNat_of_lt' hc0]
 have el:u.length+1=(u++[UInt8.ofNat c0]).length:=by rw[List.length_append,List.length_singleton]
 rcases k with⟨rfl,rfl⟩|⟨c,rest,rfl,h2,h3⟩
 ·have a1 := z267 (P := Tryd.prog) (h := h) (t := TBy) (u := TBy) (n := 0) (x := .sl b1 0 1 1) he hu hsz rfl (z1c7 kr rfl) (z11f fitBy (by omega) (by omega)) rfl hex
  refine⟨_,a1,.inr ⟨h.next,[],by rw[el],?_,Nat.lt_succ_self _⟩,Nat.lt_succ_self _,Tch.newH _ _ _ _⟩;rw[eb,List.append_nil];exact RowH.new _ _ _
 ·have hcl := ze1 u
  have a1:=z209 (P:=Tryd.prog) (h:=h) (t:=TBy) (u:=TBy) (b:=c) (o:=0) (m:=u.length) (n:=0) (x:=.sl b1 0 1 1) (cs:=z82 u) he hu hsz rfl (z1c7 kr rfl) (z11f fitBy (by omega) (by omega)) rfl hex (by
   have:=h2.part (o:=0) (n:=(z82 u).length) (by rw[List.length_append];omega);rw[List.drop_zero,List.take_left' rfl] at this;rw[Nat.mul_one, ←hcl];exact this) h2.type
  refine⟨_,a1,.inr ⟨h.next,[],by rw[el],?_,Nat.lt_succ_self _⟩,Nat.lt_succ_self _,?_⟩
  ·rw [eb, List.append_nil]
   exact RowH.new (h.put c .dead) _ _
  ·exact(Tch.put (S:=[c]) (.inl (List.mem_singleton.2 rfl)) _).trans (Tch.newH _ _ _ _)
end
theorem z3b9{t e:TypeId}{h:AHeap}{c m sz j:Nat}{l:List AV}(he:Abs.elemOf Tryd.prog t=some e)(hi:(Tryd.prog.info? e).isSome=true)(hsz:Tryd.prog.cellsOf e=sz)(k:RowH h c e l)(hm:m*sz≤l.length)(hj:j≤m)(hone:((l.drop (j*sz)).take ((m - j)*sz)).all AV.one=true):
  ∃h',z21f Tryd.prog h t (.sl c 0 m sz) (.sl c (0+j*sz) (m - j) sz)=some (.val (.int .i64 ((m - j:Nat):Int)),h')∧RowH h' c e (laid l 0 ((l.drop (j*sz)).take ((m - j)*sz)))∧h'.next=h.next∧Tch [c] h h':=by
 have hlen:((l.drop (j*sz)).take ((m - j)*sz)).length=(m - j)*sz:=by
  rw[List.length_take,List.length_drop];have:(m - j)*sz=m*sz - j*sz:=Nat.sub_mul _ _ _;clear he hi hsz;omega
 have hle:(m - j)*sz≤m*sz:=Nat.mul_le_mul_right _ (Nat.sub_le _ _)
 obtain⟨h',e1,e2,e3,e4,e5⟩:=k.put (vs:=(l.drop (j*sz)).take ((m - j)*sz)) (o:=0) (by
  rw[hlen,Nat.zero_add];exact Nat.le_trans hle hm) hone
 refine⟨h',?_,e2,e3,z300 e3 e4 e5 (.inl (List.mem_singleton.2 rfl))⟩
 have hp:=k.part (o:=0+j*sz) (n:=(m - j)*sz) (by
  have:(m - j)*sz+j*sz=m*sz:=by rw[←Nat.add_mul,Nat.sub_add_cancel hj]
  clear he hi hsz;omega)
 rw[Nat.zero_add] at hp;have hmin:Nat.min (m - j) m=m - j:=Nat.min_eq_left (Nat.sub_le _ _);unfold z21f;rw[he,show z2e1 (.sl c 0 m sz)=some m from rfl,show z2e1 (.sl c (0+j*sz) (m - j) sz)=some (m - j) from rfl];dsimp only;rw[hsz,hmin,z232 (Nat.le_refl _),Nat.zero_add,hp];dsimp only;rw[if_pos ⟨rfl,hi⟩,e1]
theorem copy_none{t e:TypeId}{h:AHeap}{c m sz:Nat}{l:List AV}(he:Abs.elemOf Tryd.prog t=some e)(hi:(Tryd.prog.info? e).isSome=true)(hsz:Tryd.prog.cellsOf e=sz)(k:RowH h c e l):
  ∃h',z21f Tryd.prog h t (.sl c 0 m sz) .esl=some (.val (.int .i64 ((0:Nat):Int)),h')∧RowH h' c e (laid l 0 [])∧h'.next=h.next∧Tch [c] h h':=by
 obtain⟨h',e1,e2,e3,e4,e5⟩:=k.put (vs:=[]) (o:=0) (by simp) rfl;refine⟨h',?_,e2,e3,z300 e3 e4 e5 (.inl (List.mem_singleton.2 rfl))⟩;have hmin:Nat.min 0 m=0:=Nat.zero_min _;unfold z21f;rw[he,show z2e1 (.sl c 0 m sz)=some m from rfl,show z2e1 .esl=some 0 from rfl];dsimp only;rw[hmin,show z1ea h (Tryd.prog.cellsOf e) 0 .esl=some [] from rfl];dsimp only;rw[if_pos ⟨hsz.symm,hi⟩,e1]
theorem z370:∀l:List z19d,(z9c l).all AV.one=true
 |[]=>rfl
 |x::l=>by
  rw[z9c,List.all_append,z370 l];rfl
theorem z2fe:∀(l:List z19d) (j:Nat),(z9c l).drop (2*j)=z9c (l.drop j)
 |l,0=>rfl
 |[],j+1=>by
  rw[List.drop_nil];exact List.drop_nil
 |x::l,j+1=>by
  rw[z9c,List.drop_succ_cons, ←z2fe l j,show 2*(j+1)=(z2ff x).length+2*j from Nat.add_comm _ _,List.drop_append,List.drop_of_length_le (Nat.le_add_right _ _),Nat.add_sub_cancel_left];rfl
theorem z45b{l:List z19d}{rest:List AV}{i:Nat}(hi:i<l.length):(z9c l++rest)[0+i*2+1]? =some (.int .i64 ((l[i]).2.2:Int)):=by
 have e:z9c l=z9c (l.take i)++(z2ff l[i]++z9c (l.drop (i+1))):=by
  have:=z172 (l.take i) (l.drop i);rw[List.take_append_drop] at this;rw[this,List.drop_eq_getElem_cons hi,z9c]
 have hl:(z9c (l.take i)).length=2*i:=by rw[z9f,List.length_take];omega
 rw[e,List.append_assoc,List.getElem?_append_right (by omega),show 0+i*2+1 - (z9c (l.take i)).length=1 by omega];rfl
def z237(f:Nat)(l:List z19d):List z19d:=l.dropWhile fun x=>decide (x.2.2<f)
theorem z35d(f:Nat):∀l:List z19d,∃j,j≤l.length∧z237 f l=l.drop j
 |[]=>⟨0,Nat.le_refl _,rfl⟩
 |x::l=>by
  unfold z237;rw[List.dropWhile_cons]
  split
  ·obtain ⟨j, h1, h2⟩ := z35d f l
   exact⟨j+1,by rw[List.length_cons];omega,by rw[List.drop_succ_cons];exact h2⟩
  ·exact⟨0,Nat.zero_le _,rfl⟩
section
variable {N:Nt}{n d nb ab o f:Nat}{h:AHeap}{cells:List AV}{v:AV}{l:List z19d}{Q:ARes→AHeap→Prop}{k4:Int→AHeap→R}
theorem z2c9{c:Nat}{rest:List AV}(ka:RowH h ab z3ca cells)(hv:cells[o+1]? =some (.sl c 0 l.length 2))(kc:RowH h c z20a (z9c l++rest))(hl:l.length<1000000)(hx:∀x∈l,x.2.2<1000000000000):
  ∀(todo:List z19d) (i fu:Nat),l.drop i=todo→i≤l.length→todo.length<fu→(∀j,j≤l.length→z237 f todo=l.drop j→Wp (k4 (j:Int) h) Q)→Wp (z8f (.ptr ab o) (f:Int) k4 fu (i:Int) h) Q
 |_,_,0,_,_,hf,_=>by omega
 |[],i,fu+1,hd,hi,hf,hk=>by
  have hli:=drop_nil hd;rw[zd5];unfold z80;have cv:=y5 ka hv;have e1:z15f (.sl c 0 l.length 2)=some (l.length:Int):=rfl
  repeat(first|(with_reducible first|refine y7 (fun _ _=>?_)|refine Wp.lett ?_|(apply Wp.obind;first|exact z11 _ _|exact cv|exact e1|exact z9 _ _ _))|((with_reducible refine y6 ?_ ?_);first|(with_reducible rfl)|((with_reducible apply decide_eq_false);omega))|(with_reducible refine yd (by assumption) ?_))
  exact hk i hi (by rw[hd];rfl)
 |x::todo,i,fu+1,hd,hi,hf,hk=>by
  obtain⟨hli,hxi,hd2⟩:=z153 hd;rw[List.length_cons] at hf;have cv:=y5 ka hv;have e1:z15f (.sl c 0 l.length 2)=some (l.length:Int):=rfl;have e2:=z25d (b:=c) hli;have e3:=y5 kc (z45b (rest:=rest) hli);have hxb:=hx _ (List.getElem_mem hli);rw[hxi] at e3 hxb;have el:(i:Int)+1=((i+1:Nat):Int):=by omega
  rw[zd5];unfold z80
  by_cases hlt:x.2.2<f
  ·repeat (first | (with_reducible refine y7 (fun _ _ => ?_)) | ((with_reducible refine ye ?_ ?_ ?_); omega; omega) | (with_reducible first | refine Wp.lett ?_ | (apply Wp.obind; first | exact z11 _ _ | exact cv | exact e1 | exact e2 | exact e3 | exact z4 _ _ | exact z9 _ _ _)) | ((with_reducible refine y8 ?_ ?_; apply decide_eq_true); omega) | (with_reducible refine yd (by assumption) ?_))
   rw[el];refine z2c9 ka hv kc hl hx todo (i+1) fu hd2 (by omega) (by omega) fun j hj e=>hk j hj ?_;rw[←e];unfold z237;rw[List.dropWhile_cons,if_pos (decide_eq_true hlt)]
  ·repeat (first | (with_reducible first | refine y7 (fun _ _ => ?_) | refine Wp.lett ?_ | (apply Wp.obind; first | exact z11 _ _ | exact cv | exact e1 | exact e2 | exact e3 | exact z4 _ _ | exact z9 _ _ _)) | ((with_reducible refine y8 ?_ ?_; apply decide_eq_true); omega) | ((with_reducible refine y6 ?_ ?_; apply decide_eq_false); omega) | (with_reducible refine yd (by assumption) ?_))
   refine hk i hi ?_;rw[hd];unfold z237;rw[List.dropWhile_cons,if_neg (by rw[decide_eq_true_eq];exact hlt)]
theorem forget_r(k:ArmAt h ab o nb N cells v l)(hvn:zd7 v≠[])(hne:ab≠nb)(hl:l.length<1000000)(hx:∀x∈l,x.2.2<1000000000000)(hn:1000000<n):
  ∃v' h',world n (d+2) 52 [.ptr ab o,.int .i64 (f:Int)] h=some (.ret (.tup []),h')∧ArmAt h' ab o nb N (cells.set (o+1) v') v' (z237 f l)∧zd7 v'=zd7 v∧h'.next=h.next∧Tch (ab::zd7 v) h h':=by
 obtain⟨k1,k2,k3,kv,k5,k6,k7,k8,k9,k10,k11,k12,k13,k14⟩:=id k
 have hlen:o+1<cells.length:=by
  apply Nat.lt_of_not_le;intro hh;rw[List.getElem?_eq_none hh] at kv
  cases kv
 suffices hK:Wp (world n (d+2) 52 [.ptr ab o,.int .i64 (f:Int)] h) fun r h'=>∃v',r=.ret (.tup [])∧ArmAt h' ab o nb N (cells.set (o+1) v') v' (z237 f l)∧zd7 v'=zd7 v∧h'.next=h.next∧Tch (ab::zd7 v) h h' by
  obtain⟨_,h',e,v',rfl,k⟩:=hK;exact⟨v',h',e,k⟩
 rw[z20e];unfold z93;refine y1e fun k4 ek=>?_
 rcases k5 with⟨rfl,_⟩|⟨c,rest,rfl,hA,kc,hc⟩
 ·exact absurd rfl hvn
 have he:Abs.elemOf Tryd.prog z1ac=some z20a:=by kernel_rfl
 have hi:(Tryd.prog.info? z20a).isSome=true:=by kernel_rfl
 have hsz:Tryd.prog.cellsOf z20a=2:=by kernel_rfl
 have hac:ab≠c:=fun e=>k11 (e▸List.mem_singleton.2 rfl);have cv:=y5 k1 kv;refine z2c9 k1 kv kc hl hx l 0 n rfl (Nat.zero_le _) (by omega) fun j hj ej=>?_;rw[ek,ej];have hwl:=z9f l
 -- the copy, whatever the rest is
 have fin:∀{h2:AHeap} {l2:List AV},RowH h2 c z20a l2→l2.take (2*(l.length - j))=z9c (l.drop j)→2*l.length≤l2.length→h2.next=h.next→Tch [c] h h2→Wp (callN (world n (d+1) 53 [.ptr ab o,.int .i64 ((l.length - j:Nat):Int)] h2) fun _ h_17=>some (.ret (.tup []),h_17)) fun r h'=>∃v',r=.ret (.tup [])∧ArmAt h' ab o nb N (cells.set (o+1) v') v' (l.drop j)∧zd7 v'=zd7 (.sl c 0 l.length 2)∧h'.next=h.next∧Tch (ab::zd7 (.sl c 0 l.length 2)) h h':=by
  intro h2 l2 kc2 e2 hl2 n2 t2;have ka2:=k1.tch t2 k2 (by simpa using hac);have kv2:VAt h2 (.sl c 0 l.length 2) (l2.take (2*l.length)) l.length:=.inr ⟨c,l2.drop (2*l.length),rfl,by rw[List.length_take];omega,by rw[List.take_append_drop];exact kc2,by omega⟩;obtain⟨v',h3,e3,q1,q2,q3,q4,q5⟩:=z265 (n:=n) (d:=d) (live:=l.length - j) ka2 kv (by omega) kv2 (by omega) k11;refine Wp.callN e3 ?_;rw[List.take_take,Nat.min_eq_left (by omega),e2] at q2;have tt:Tch (ab::zd7 (.sl c 0 l.length 2)) h h3:=(t2.mono fun b hb=>.inl (List.mem_cons_of_mem _ hb)).trans q5;have hdl:(l.drop j).length=l.length - j:=List.length_drop
  have hsub:∀b∈(l.drop j).map (·.1),b∈l.map (·.1):=fun b hb=>by
   obtain⟨x,hx,e⟩:=List.mem_map.1 hb;exact List.mem_map.2 ⟨x,List.mem_of_mem_drop hx,e⟩
  have nS:∀b∈l.map (·.1),b ∉ ab::zd7 (.sl c 0 l.length 2):=fun b hb hm=>by
   rcases List.mem_cons.1 hm with hm|hm
   ·exact k12 (hm▸hb)
   ·exact k10 b hm hb
  refine Wp.ret ⟨v',rfl,⟨q1,by omega,?_,List.getElem?_set_self hlen,by rw[hdl];exact q2,?_,?_,by omega,?_,fun b hb hm=>?_,?_,fun hb=>k12 (hsub _ hb),?_,fun hb=>k14 (hsub _ hb)⟩,q3,q4.trans n2,tt⟩
  ·rw [List.getElem?_set_ne (by omega)]
   exact k3
  ·exact RunsAt.tch (fun x hx=>k6 x (List.mem_of_mem_drop hx)) tt fun x hx=>nS _ (hsub _ (List.mem_map_of_mem hx))
  ·refine k7.tch tt k8 fun hm => ?_
   rcases List.mem_cons.1 hm with hm|hm
   ·exact hne hm.symm
   ·exact k13 hm
  ·exact k9.sublist ((List.drop_sublist j l).map _)
  ·rw [q3] at hb
   exact k10 b hb (hsub _ hm)
  ·rw [q3]
   exact k11
  ·rw [q3]
   exact k13
 have e1:((z9c l++rest).drop (j*2)).take ((l.length - j)*2)=z9c (l.drop j):=by
  rw[List.drop_append_of_le_length (by omega),show j*2=2*j from Nat.mul_comm _ _,z2fe];exact List.take_left' (by rw[z9f,List.length_drop];omega)
 by_cases hje:j=l.length∧0<j
 ·obtain ⟨rfl, h0⟩ := hje
  have s1:=z37c (P:=Tryd.prog) (h:=h) (b:=c) (o:=0) (k1:=.i64) he hi hsz h0;obtain⟨h2,c2,q1,q2,q3⟩:=copy_none (m:=l.length) he hi hsz kc;refine Wp.obind (z11 _ _) (Wp.obind (z9 _ _ _) (Wp.obind cv (Wp.obind (z11 _ _) (Wp.obind (z9 _ _ _) (Wp.obind cv (Wp.outK s1 (Wp.outK c2 (Wp.obind (z4 _ _) ?_))))))))
  have:=fin q1 (by
   rw[Nat.sub_self,List.drop_length];rfl) (by
   show _≤(laid _ 0 []).length;rw[z11d (by simp),List.length_append];omega) q2 q3
  rw[Nat.sub_self] at this;exact this
 ·have s1 := z24b (P := Tryd.prog) (h := h) (b := c) (o := 0) (m := l.length) (l1 := j) (k1 := .i64) he hi hsz hj hje
  obtain⟨h2,c2,q1,q2,q3⟩:=z3b9 (m:=l.length) (j:=j) he hi hsz kc (by rw[List.length_append];omega) hj (by rw[e1];exact z370 _);refine Wp.obind (z11 _ _) (Wp.obind (z9 _ _ _) (Wp.obind cv (Wp.obind (z11 _ _) (Wp.obind (z9 _ _ _) (Wp.obind cv (Wp.outK s1 (Wp.outK c2 (Wp.obind (z4 _ _) ?_))))))));rw[e1] at q1;have hdl:(z9c (l.drop j)).length=2*(l.length - j):=by rw[z9f,List.length_drop]
  refine fin q1 ?_ ?_ q2 q3
  ·unfold laid
   rw[List.take_zero,List.nil_append];exact List.take_left' hdl
  ·rw [z11d (by rw [List.length_append]; omega), List.length_append]
   omega
end
end Go.Proofs.YtcahhjjnihipdaaDoor
