/- What matchEarlyUpto_proved stands on, part 8 of 11. -/
import Derived.Test.YtcahhjjnihipdaaDoorCe7
namespace Go.Proofs.YtcahhjjnihipdaaDoor
open Go.RowKit Abs
theorem z35c{x:R}{v:AV}{h:AHeap}{kp k:AV→AHeap→R}{Q:ARes→AHeap→Prop}(e:x=some (.ret v,h))(hk:Wp (k v h) Q):Wp (z2d0 x kp k) Q:=by rw[e,z46c];exact hk
theorem z35d{x:R}{v:AV}{h:AHeap}{kp k:AV→AHeap→R}{Q:ARes→AHeap→Prop}(e:x=some (.panic v,h))(hk:Wp (kp v h) Q):Wp (z2d0 x kp k) Q:=by rw[e,z3b5];exact hk
theorem neqNil(h:AHeap):ze4 Tryd.prog h .neq 20 true (some .nifc) (some .nifc)=some (.val (.bool false),h):=by kernel_rfl
theorem neqPan(h:AHeap)(e:Int)(q:Nat):ze4 Tryd.prog h .neq 20 true (some (z27b e q)) (some .nifc)=some (.val (.bool true),h):=by kernel_rfl
theorem assertPan(h:AHeap)(e:Int)(q:Nat):z13b Tryd.prog h 131 true (some (z27b e q))=some (.val (.tup [.agg [.int .i64 e,.int .i64 (q:Int)],.bool true]),h):=by kernel_rfl
abbrev TPtr:Nat:=110
abbrev z2f3:Nat:=70
section
variable {n d pc rd ft tx mo:Nat}{h h0:AHeap}{u t:Bytes}{most:Int}{fc:List AV}{S:List Nat}{Q:ARes→AHeap→Prop}{ys:List zd7}
theorem z490{call:zc}{b:Nat}{H:AHeap}:z4c call n (.ptr b 0) .nifc H=some (.ret (.tup []),H):=by
 apply Wp.eq;unfold z4c
 repeat(with_reducible first|refine yf (fun _ _=>?_)|(apply Wp.obind;exact z5 _)|(refine y6 ?_ ?_;rfl)|(apply Wp.outK;exact neqNil _)|refine y26 (by assumption) ?_)
 exact Wp.ret ⟨rfl,rfl⟩
theorem z48f{call:zc}{b:Nat}{H:AHeap}{l:List AV}(hl:l.length=2)(Mx:Mem S h0 H ((b,z2f3,l)::ys))(e:Int)(q:Nat):∃H',z4c call n (.ptr b 0) (z27b e q) H=some (.ret (.tup []),H')∧Mem S h0 H' ((b,z2f3,[.int .i64 e,.int .i64 (q:Int)])::ys):=by
 apply Wp.ex;unfold z4c
 repeat(first|(with_reducible apply Wp.obind;exact z5 _)|((with_reducible apply y15 Mx);rfl)|((with_reducible apply y10 Mx);rfl;rfl;(rfl);clear Mx;intro _ Mx)|((with_reducible apply y9 Mx);clear Mx;intro _ Mx)|(with_reducible first|refine yf (fun _ _=>?_)|refine Wp.lett ?_|(apply Wp.obind;first|exact z11 _|exact zf1 _ _|exact zf0 _ _ _)|(refine y7 ?_ ?_;rfl)|(refine y6 ?_ ?_;exact Bool.not_true)|(apply Wp.outK;first|exact neqPan _ _ _|exact assertPan _ _ _)|refine y26 (by assumption) ?_)|rw[ze])
 refine y24 Mx rfl hl rfl (fun h' M'=>?_)
 repeat((with_reducible refine y26 (by assumption) ?_))
 exact Wp.ret ⟨rfl,M'.pop⟩
end
theorem dynT(call:zc)(a b c:Nat)(h:AHeap):z479 Tryd.prog call (AV.fn 55 [] [.ptr a 0,.ptr b 0,.ptr c 0]) [] h=call 55 [.ptr a 0,.ptr b 0,.ptr c 0] h:=by
 have e:z3b4 Tryd.prog h [] (some (AV.fn 55 [] [.ptr a 0,.ptr b 0,.ptr c 0]))=some (.call 55 [.ptr a 0,.ptr b 0,.ptr c 0],h):=by kernel_rfl
 unfold z479;rw[e]
section
variable {n D d b p q i m:Nat}{h h0:AHeap}{u:Bytes}{Q:ARes→AHeap→Prop}{S:List Nat}{xs rs rs' T T0 T1:List zd7}{w:List Nat}{x:R}{t:Nd}{c:List AV}{v kv fv:AV}{l:List Nd}{kc:List (List AV)}
noncomputable abbrev z1b0(pc rd sp nd pt p:Nat)(u:Bytes)(kind:Int)(c:List AV):List zd7:=[(pc,TPtr,[.ptr rd 0]),(rd,TRd,rdP u p),(sp,z2f3,[.int .i64 0,.int .i64 0]),(nd,z22,c),(pt,51,[.int .i64 kind,strA u])]
theorem t1_ok{pc rd sp nd pt:Nat}{kind:Int}{z:List AV}(hz:z.length=6)(hs:∀(h:AHeap),Rd h rd u 0→rd<h.next→zbb z22 h.ex=false→StepT rd u h (world n D 56 [.ptr rd 0,.int .i64 kind] h) (.ok t))(M:Mem S h0 h (z1b0 pc rd sp nd pt 0 u kind z++xs))(hx:zbb z22 h0.ex=false):
  ∃c T h' p,world n (D+1) 55 [.ptr pc 0,.ptr pt 0,.ptr nd 0] h=some (.ret (.tup []),h')∧NodeT t c T∧Mem S h0 h' (z1b0 pc rd sp nd pt p u kind c++(xs++T)):=by
 have Mx:Mem S h0 h ((pc,TPtr,[.ptr rd 0])::(rd,TRd,rdP u 0)::(sp,z2f3,[.int .i64 0,.int .i64 0])::(nd,z22,z)::(pt,51,[.int .i64 kind,strA u])::xs):=M;obtain⟨c,T,h1,p,e1,kt,M1⟩:=hs h Mx.at1.1 Mx.at1.2.1 (by rw[Mx.ex];exact hx);have M2:Mem S h0 h1 ((rd,TRd,rdP u p)::(pc,TPtr,[.ptr rd 0])::(sp,z2f3,[.int .i64 0,.int .i64 0])::(nd,z22,z)::(pt,51,[.int .i64 kind,strA u])::(xs++T)):=y3f (xs:=[_]) (ys:=[_]) Mx.swap M1
 suffices hK:Wp (world n (D+1) 55 [.ptr pc 0,.ptr pt 0,.ptr nd 0] h) fun r h'=>r=.ret (.tup [])∧Mem S h0 h' (z1b0 pc rd sp nd pt p u kind c++(xs++T)) by
  obtain⟨_,h',e,rfl,M'⟩:=hK;exact⟨c,T,h',p,e,kt,M'⟩
 rw[z196];unfold z9b
 repeat(first|(with_reducible apply Wp.obind;first|exact z4 _ _|exact z8 _ _ _)|((with_reducible apply y20 Mx);rfl)|((with_reducible apply Wp.ld4 Mx);rfl)|(with_reducible first|(apply Wp.obind;exact z11 _)|(apply Wp.callK;assumption)))
 refine y45 M2 kt.len hz kt.one fun h2 M3=>?_;exact Wp.ret ⟨rfl,M3.swap⟩
theorem t1_bad{pc rd sp nd pt:Nat}{kind:Int}{z:List AV}(hs:∀(h:AHeap),Rd h rd u 0→rd<h.next→zbb z22 h.ex=false→StepT rd u h (world n D 56 [.ptr rd 0,.int .i64 kind] h) (.error q))(M:Mem S h0 h (z1b0 pc rd sp nd pt 0 u kind z++xs))(hx:zbb z22 h0.ex=false):
  ∃h' p,world n (D+1) 55 [.ptr pc 0,.ptr pt 0,.ptr nd 0] h=some (.panic (z27b 6 q),h')∧Mem S h0 h' (z1b0 pc rd sp nd pt p u kind z++xs):=by
 have Mx:Mem S h0 h ((pc,TPtr,[.ptr rd 0])::(rd,TRd,rdP u 0)::(sp,z2f3,[.int .i64 0,.int .i64 0])::(nd,z22,z)::(pt,51,[.int .i64 kind,strA u])::xs):=M;obtain⟨h1,p,e1,k1,t1⟩:=hs h Mx.at1.1 Mx.at1.2.1 (by rw[Mx.ex];exact hx)
 suffices hK:Wp (world n (D+1) 55 [.ptr pc 0,.ptr pt 0,.ptr nd 0] h) fun r h'=>r=.panic (z27b 6 q)∧Mem S h0 h' (z1b0 pc rd sp nd pt p u kind z++xs) by
  obtain⟨_,h',e,rfl,M'⟩:=hK;exact⟨h',p,e,M'⟩
 rw[z196];unfold z9b
 repeat(first|(with_reducible apply Wp.obind;first|exact z4 _ _|exact z8 _ _ _)|((with_reducible apply y20 Mx);rfl)|((with_reducible apply Wp.ld4 Mx);rfl))
 exact y18 e1 ⟨rfl,y17 (xs:=[_]) Mx t1 k1⟩
theorem z421:∀(l:List AV) (x:AV) (N:Nat),y1e N (l++[x])=true→AV.lo N x=true
 |[],x,N,h=>by
  have:(AV.lo N x&&y1e N [])=true:=h
  simpa [y1e] using this
 |y::l,x,N,h=>by
  have:(AV.lo N y&&y1e N (l++[x]))=true:=h;rw[Bool.and_eq_true] at this;exact z421 l x N this.2
theorem NodeT.low{N:Nat}(k:NodeT t c T)(hn:∀y∈T,N≤y.1)(hl:y1e N c=true):T=[]:=by
 cases k with
 |mk hw g ks=>
  rename_i op w kids kc kv T0 T1;have h2:=z421 (.int .i64 (op:Int)::z1f w) kv N hl
  rcases g.2 with⟨rfl,rfl,rfl⟩|⟨_,q,rfl,rfl⟩
  ·cases ks
   rfl
  ·have h3 := hn (q, z22, kc.flatten) (by simp)
   have h4:q<N:=Nat.le_of_ble_eq_true h2;exact absurd h3 (by show ¬N≤q;omega)
end
section
variable {n D d b p q i m:Nat}{h h0:AHeap}{u:Bytes}{Q:ARes→AHeap→Prop}{S:List Nat}{xs rs rs' T T0 T1:List zd7}{w:List Nat}{x:R}{t:Nd}{c:List AV}{v kv fv:AV}{l:List Nd}{kc:List (List AV)}
theorem z164{pc rd sp nd pt:Nat}{kind:Int}{z:List AV}(hs:∀(h:AHeap),Rd h rd u 0→rd<h.next→zbb z22 h.ex=false→StepT rd u h (world n D 56 [.ptr rd 0,.int .i64 kind] h) (.error q))(M:Mem S h0 h (z1b0 pc rd sp nd pt 0 u kind z++xs))(hx:zbb z22 h0.ex=false):
  ∃h',world n (D+2) 54 [AV.fn 55 [] [.ptr pc 0,.ptr pt 0,.ptr nd 0]] h=some (.ret (.agg [.int .i64 6,.int .i64 (q:Int)]),h')∧∃p,Mem S h0 h' (z1b0 pc rd sp nd pt p u kind z++xs):=by
 apply Wp.ex;rw[z1ab];unfold zab;refine y9 M fun h1 M1=>?_
 obtain⟨h2,p,e2,M2⟩:=t1_bad (n:=n) (D:=D) (xs:=xs++[(h.next,z2f3,[.int .i64 0,.int .i64 0])]) hs (M1.perm (by
  rw[←List.append_assoc];exact List.perm_append_comm (l₁:=z1b0 pc rd sp nd pt 0 u kind z++xs) (l₂:=[_]))) hx
 have M3:Mem S h0 h2 ((h.next,z2f3,[.int .i64 0,.int .i64 0])::(z1b0 pc rd sp nd pt p u kind z++xs)):=M2.perm (by
  rw[←List.append_assoc];exact List.perm_append_comm (l₁:=[_]) (l₂:=z1b0 pc rd sp nd pt p u kind z++xs))
 refine z35d ((dynT _ _ _ _ _).trans e2) ?_;rw[ze];obtain⟨h3,e3,M4⟩:=z48f (n:=n) (call:=world n (D+1)) rfl M3 6 q;refine Wp.callN e3 ?_;refine y15 M4 rfl ?_;exact Wp.ret ⟨rfl,p,M4.pop⟩
theorem z17e{pc rd sp nd pt:Nat}{kind:Int}{z:List AV}(hz:z.length=6)(hs:∀(h:AHeap),Rd h rd u 0→rd<h.next→zbb z22 h.ex=false→StepT rd u h (world n D 56 [.ptr rd 0,.int .i64 kind] h) (.ok t))(M:Mem S h0 h (z1b0 pc rd sp nd pt 0 u kind z++xs))(hx:zbb z22 h0.ex=false):
  ∃c T h' p,world n (D+2) 54 [AV.fn 55 [] [.ptr pc 0,.ptr pt 0,.ptr nd 0]] h=some (.ret (.agg [.int .i64 0,.int .i64 0]),h')∧NodeT t c T∧Mem S h0 h' (z1b0 pc rd sp nd pt p u kind c++(xs++T)):=by
 suffices hK:Wp (world n (D+2) 54 [AV.fn 55 [] [.ptr pc 0,.ptr pt 0,.ptr nd 0]] h) fun r h'=>∃c T p,r=.ret (.agg [.int .i64 0,.int .i64 0])∧NodeT t c T∧Mem S h0 h' (z1b0 pc rd sp nd pt p u kind c++(xs++T)) by
  obtain⟨_,h',e,c,T,p,rfl,k1,k2⟩:=hK;exact⟨c,T,h',p,e,k1,k2⟩
 rw[z1ab];unfold zab;refine y9 M fun h1 M1=>?_;obtain⟨c,T,h2,p,e2,kt,M2⟩:=t1_ok (n:=n) (D:=D) (xs:=[(h.next,z2f3,[.int .i64 0,.int .i64 0])]++xs) hz hs (M1.perm (List.perm_append_comm_assoc (z1b0 pc rd sp nd pt 0 u kind z) [_] xs)) hx
 have M3:Mem S h0 h2 ((h.next,z2f3,[.int .i64 0,.int .i64 0])::(z1b0 pc rd sp nd pt p u kind c++(xs++T))):=M2.perm (by
  rw[List.append_assoc];exact List.perm_append_comm_assoc [_] (z1b0 pc rd sp nd pt p u kind c) (xs++T))
 refine z35c ((dynT _ _ _ _ _).trans e2) ?_;clear M1 M2;have Mx:=M3;clear M3;rw[ze]
 repeat(first|((with_reducible apply y15 Mx);rfl)|((with_reducible apply y10 Mx);rfl;rfl;(rfl);clear Mx;intro _ Mx)|(with_reducible apply Wp.callN;exact z490))
 exact Wp.ret ⟨c,T,p,rfl,kt,Mx.pop⟩
theorem z36d{kind:Int}(hk:¬(kind=1∨kind=2∨kind=3)):world n (D+1) 36 [.agg [.int .i64 kind,strA u]] h=some (.ret (.tup [.agg (z8a 0 z8e .nsl),.agg [.int .i64 2,.int .i64 0]]),h):=by
 apply Wp.eq;rw[z32];refine y3c ?_
 suffices hK:Wp (z12 (world n D) n [.int .i64 kind,strA u] h) fun r h'=>r=.ret (.tup [.agg (z8a 0 z8e .nsl),.agg [.int .i64 2,.int .i64 0]])∧Tch [] h h' from hK.mono fun r h' ⟨e,t⟩=>⟨t.above,by rw[e];rfl,e,rfl⟩
 unfold z12;have Mx:=Mem.nil [] h;have b3:((kind:Int) != 3)=true:=z17b (by omega)
 repeat(first|(with_reducible apply Wp.obind;first|exact z4 _ _|exact z8 _ _ _)|((with_reducible apply y15 Mx);rfl)|((with_reducible apply y10 Mx);rfl;rfl;(rfl);clear Mx;intro _ Mx)|((with_reducible apply y1f Mx);rfl)|((with_reducible apply y24 Mx);rfl;rfl;(rfl);clear Mx;intro _ Mx)|((with_reducible apply y1b Mx);rfl)|((with_reducible apply y9 Mx);clear Mx;intro _ Mx)|((with_reducible apply y16 Mx);(rfl);clear Mx;intro _ Mx)|(with_reducible first|refine y8 (fun _ _=>?_)|refine Wp.lett ?_)|((with_reducible refine y7 ?_ ?_);first|(with_reducible assumption)|((with_reducible apply z17b);omega))|(with_reducible refine yd (by assumption) ?_)|rw[ze])
 exact Wp.ret ⟨rfl,Mx.tch⟩
theorem z247(hu:u.length≤1000000){kind:Int}(hk:kind=1∨kind=2∨kind=3):(64<u.length→∀{n D:Nat} {h:AHeap},0≤D→300<n→zbb z22 h.ex=false→world n (D+1) 36 [.agg [.int .i64 kind,strA u]] h=some (.ret (.tup [.agg (z8a 0 z8e .nsl),.agg [.int .i64 3,.int .i64 64]]),h))∧
  (u.length ≤ 64 → ∃ r, TreeP u kind r ∧ (∀ q, r = .error q → q ≤ u.length) ∧ ∀ {n D : Nat} {h : AHeap}, 300 ≤ D → 400 < n → zbb z22 h.ex = false → match r with
   | .error q=>world n (D+3) 36 [.agg [.int .i64 kind,strA u]] h=some (.ret (.tup [.agg (z8a 0 z8e .nsl),.agg [.int .i64 6,.int .i64 (q:Int)]]),h)
   | .ok t=>∃c T h',world n (D+3) 36 [.agg [.int .i64 kind,strA u]] h=some (.ret (.tup [.agg c,.agg [.int .i64 0,.int .i64 0]]),h')∧NodeT t c T∧Mem [] h h' T):=by
 have hk':=hk
 rcases hk' with rfl|rfl|rfl
 ·-- kind 1
  refine⟨?_,?_⟩
  ·intro l n D h hD hn hx
   apply Wp.eq;rw[z32];refine y3c ?_
   suffices hK:Wp (z12 (world n D) n [.int .i64 1,strA u] h) fun r h'=>r=.ret (.tup [.agg (z8a 0 z8e .nsl),.agg [.int .i64 3,.int .i64 64]])∧Tch [] h h' from hK.mono fun r h' ⟨e,t⟩=>⟨t.above,by rw[e];rfl,e,rfl⟩
   unfold z12;have ll:=z5b u;have Mx:=Mem.nil [] h
   repeat(first|(with_reducible apply Wp.obind;first|exact z4 _ _|exact z6e _|exact z8 _ _ _)|((with_reducible apply y15 Mx);rfl)|((with_reducible apply y10 Mx);rfl;rfl;(rfl);clear Mx;intro _ Mx)|((with_reducible apply y1f Mx);rfl)|((with_reducible apply y24 Mx);rfl;rfl;(rfl);clear Mx;intro _ Mx)|((with_reducible apply y1b Mx);rfl)|((with_reducible apply y9 Mx);clear Mx;intro _ Mx)|((with_reducible apply y16 Mx);(rfl);clear Mx;intro _ Mx)|(with_reducible first|refine y8 (fun _ _=>?_)|refine Wp.lett ?_)|((with_reducible refine y7 ?_ ?_);((with_reducible first|apply decide_eq_true|apply z17b);omega))|((with_reducible refine y6 ?_ ?_);first|(with_reducible rfl)|((with_reducible apply z17c);omega))|(with_reducible refine yd (by assumption) ?_)|rw[ze])
   exact Wp.ret ⟨rfl,Mx.tch⟩
  ·intro l
   obtain⟨r,r1,r2,r3⟩:=z481 hu 1 hk;refine⟨r,r1,r2,?_⟩;intro n D h hD hn hx;have hs:∀(rd:Nat) (h:AHeap),Rd h rd u 0→rd<h.next→zbb z22 h.ex=false→StepT rd u h (world n D 56 [.ptr rd 0,.int .i64 1] h) r:=fun rd h k1 k2 k3=>r3 (by omega) (by omega) (by omega) k1 k2 k3
   cases r with
   |error q=>
    apply Wp.eq;rw[z32];refine y3c ?_
    suffices hK:Wp (z12 (world n (D+2)) n [.int .i64 1,strA u] h) fun r h'=>r=.ret (.tup [.agg (z8a 0 z8e .nsl),.agg [.int .i64 6,.int .i64 (q:Int)]])∧Tch [] h h' from hK.mono fun r h' ⟨e,t⟩=>⟨t.above,by rw[e];rfl,e,rfl⟩
    unfold z12;have ll:=z5b u;have Mx:=Mem.nil [] h
    repeat(first|(with_reducible apply Wp.obind;first|exact z4 _ _|exact z6e _|exact z8 _ _ _)|((with_reducible apply y10 Mx);rfl;rfl;(rfl);clear Mx;intro _ Mx)|((with_reducible apply y1b Mx);rfl)|((with_reducible apply y9 Mx);clear Mx;intro _ Mx)|((with_reducible apply y16 Mx);(rfl);clear Mx;intro _ Mx)|(with_reducible first|refine y8 (fun _ _=>?_)|refine Wp.lett ?_)|((with_reducible refine y6 ?_ ?_);first|(with_reducible rfl)|((with_reducible first|apply decide_eq_false|apply z17c);omega))|(with_reducible refine yd (by assumption) ?_)|rw[ze])
    obtain⟨h2,e2,p2,M2⟩:=z164 (n:=n) (D:=D) (xs:=[]) (hs _) (by rw[List.append_nil];exact Mx) hx;refine Wp.callN e2 ?_;clear Mx;have Mx:=M2
    repeat(first|(with_reducible apply Wp.obind;exact z4 _ _)|((with_reducible apply y1b Mx);rfl)|((with_reducible apply y42 Mx);rfl)|((with_reducible apply y39 Mx);rfl;rfl;(rfl);clear Mx;intro _ Mx)|((with_reducible apply y3b Mx);rfl)|((with_reducible apply y45 Mx);rfl;rfl;(rfl);clear Mx;intro _ Mx)|((with_reducible refine Wp.chk ?_ ?_);focus ((repeat' (first|(with_reducible exact rfl)|(with_reducible apply z267)|((with_reducible apply y48 Mx);kernel_rfl;kernel_rfl)));done))|(with_reducible first|refine Wp.lett ?_|(apply Wp.obind;exact z11 _))|((with_reducible refine y7 ?_ ?_;apply z17b);omega))
    exact Wp.ret ⟨rfl,Mx.tch⟩
   |ok t=>
    obtain⟨c,T,h',e,kt,M'⟩:∃c T h',z12 (world n (D+2)) n [.int .i64 1,strA u] h=some (.ret (.tup [.agg c,.agg [.int .i64 0,.int .i64 0]]),h')∧NodeT t c T∧Mem [] h h' T:=by
     suffices hK:Wp (z12 (world n (D+2)) n [.int .i64 1,strA u] h) fun r h'=>∃c T,r=.ret (.tup [.agg c,.agg [.int .i64 0,.int .i64 0]])∧NodeT t c T∧Mem [] h h' T by
      obtain⟨_,h',e,c,T,rfl,k1,k2⟩:=hK;exact⟨c,T,h',e,k1,k2⟩
     unfold z12;have ll:=z5b u;have Mx:=Mem.nil [] h
     repeat(first|(with_reducible apply Wp.obind;first|exact z4 _ _|exact z6e _|exact z8 _ _ _)|((with_reducible apply y10 Mx);rfl;rfl;(rfl);clear Mx;intro _ Mx)|((with_reducible apply y1b Mx);rfl)|((with_reducible apply y9 Mx);clear Mx;intro _ Mx)|((with_reducible apply y16 Mx);(rfl);clear Mx;intro _ Mx)|(with_reducible first|refine y8 (fun _ _=>?_)|refine Wp.lett ?_)|((with_reducible refine y6 ?_ ?_);first|(with_reducible rfl)|((with_reducible first|apply decide_eq_false|apply z17c);omega))|(with_reducible refine yd (by assumption) ?_)|rw[ze])
     obtain⟨c,T,h2,p2,e2,kt,M2⟩:=z17e (n:=n) (D:=D) (xs:=[]) rfl (hs _) (by rw[List.append_nil];exact Mx) hx;refine Wp.callN e2 ?_;clear Mx;have Mx:=M2;have hl:=kt.len;have ho:=kt.one
     repeat(first|(with_reducible apply Wp.obind;exact z4 _ _)|((with_reducible apply y1b Mx);rfl)|((with_reducible apply y39 Mx);rfl;rfl;(rfl);clear Mx;intro _ Mx)|(with_reducible first|refine Wp.lett ?_|(apply Wp.obind;exact z11 _))|((with_reducible refine y6 ?_ ?_;apply z17c);omega))
     refine y3b Mx hl ?_
     repeat(((with_reducible apply y42 Mx);rfl))
     refine y45 Mx hl hl ho fun _ Mz=>?_;clear Mx;have Mx:=Mz;clear Mz
     repeat(first|((with_reducible apply y39 Mx);rfl;rfl;(rfl);clear Mx;intro _ Mx)|((with_reducible refine Wp.chk ?_ ?_);focus ((repeat' (first|(with_reducible exact rfl)|(with_reducible apply z267)|((with_reducible apply y48 Mx);kernel_rfl;kernel_rfl)));done)))
     refine y3b Mx hl ?_
     repeat(((with_reducible apply y42 Mx);rfl))
     exact Wp.ret ⟨c,T,rfl,kt,Mx.pop.pop.pop.pop.pop⟩
    have M2:=M'
    suffices hK:Wp (gcR h (z12 (world n (D+2)) n [.int .i64 1,strA u] h)) fun r h'=>∃T,r=.ret (.tup [.agg c,.agg [.int .i64 0,.int .i64 0]])∧NodeT t c T∧Mem [] h h' T by
     obtain⟨_,h',e,T,rfl,k1,k2⟩:=hK;rw[←z32] at e;exact⟨c,T,h',e,k1,k2⟩
    refine y5c ⟨_,h',e,⟨T,rfl,kt,M'⟩,fun _ hl=>?_⟩
    have h1:y1e h.next c=true:=by
     have:(y1e h.next c&&(y1e h.next [.int .i64 0,.int .i64 0]&&y1e h.next []))=true:=hl;rw[Bool.and_eq_true] at this;exact this.1
    have hT:T=[]:=kt.low (fun y hy=>(M'.row y hy).2.2.resolve_left (by simp)) h1;subst hT;exact⟨[],rfl,kt,Mem.nil _ _⟩
 ·-- kind 2
  refine⟨?_,?_⟩
  ·intro l n D h hD hn hx
   apply Wp.eq;rw[z32];refine y3c ?_
   suffices hK:Wp (z12 (world n D) n [.int .i64 2,strA u] h) fun r h'=>r=.ret (.tup [.agg (z8a 0 z8e .nsl),.agg [.int .i64 3,.int .i64 64]])∧Tch [] h h' from hK.mono fun r h' ⟨e,t⟩=>⟨t.above,by rw[e];rfl,e,rfl⟩
   unfold z12;have ll:=z5b u;have Mx:=Mem.nil [] h
   repeat(first|(with_reducible apply Wp.obind;first|exact z4 _ _|exact z6e _|exact z8 _ _ _)|((with_reducible apply y15 Mx);rfl)|((with_reducible apply y10 Mx);rfl;rfl;(rfl);clear Mx;intro _ Mx)|((with_reducible apply y1f Mx);rfl)|((with_reducible apply y24 Mx);rfl;rfl;(rfl);clear Mx;intro _ Mx)|((with_reducible apply y1b Mx);rfl)|((with_reducible apply y9 Mx);clear Mx;intro _ Mx)|((with_reducible apply y16 Mx);(rfl);clear Mx;intro _ Mx)|(with_reducible first|refine y8 (fun _ _=>?_)|refine Wp.lett ?_)|((with_reducible refine y7 ?_ ?_);((with_reducible first|apply decide_eq_true|apply z17b);omega))|((with_reducible refine y6 ?_ ?_);first|(with_reducible rfl)|((with_reducible apply z17c);omega))|(with_reducible refine yd (by assumption) ?_)|rw[ze])
   exact Wp.ret ⟨rfl,Mx.tch⟩
  ·intro l
   obtain⟨r,r1,r2,r3⟩:=z481 hu 2 hk;refine⟨r,r1,r2,?_⟩;intro n D h hD hn hx;have hs:∀(rd:Nat) (h:AHeap),Rd h rd u 0→rd<h.next→zbb z22 h.ex=false→StepT rd u h (world n D 56 [.ptr rd 0,.int .i64 2] h) r:=fun rd h k1 k2 k3=>r3 (by omega) (by omega) (by omega) k1 k2 k3
   cases r with
   |error q=>
    apply Wp.eq;rw[z32];refine y3c ?_
    suffices hK:Wp (z12 (world n (D+2)) n [.int .i64 2,strA u] h) fun r h'=>r=.ret (.tup [.agg (z8a 0 z8e .nsl),.agg [.int .i64 6,.int .i64 (q:Int)]])∧Tch [] h h' from hK.mono fun r h' ⟨e,t⟩=>⟨t.above,by rw[e];rfl,e,rfl⟩
    unfold z12;have ll:=z5b u;have Mx:=Mem.nil [] h
    repeat(first|(with_reducible apply Wp.obind;first|exact z4 _ _|exact z6e _|exact z8 _ _ _)|((with_reducible apply y10 Mx);rfl;rfl;(rfl);clear Mx;intro _ Mx)|((with_reducible apply y1b Mx);rfl)|((with_reducible apply y9 Mx);clear Mx;intro _ Mx)|((with_reducible apply y16 Mx);(rfl);clear Mx;intro _ Mx)|(with_reducible first|refine y8 (fun _ _=>?_)|refine Wp.lett ?_)|((with_reducible refine y7 ?_ ?_);((with_reducible first|apply decide_eq_true|apply z17b);omega))|((with_reducible refine y6 ?_ ?_);first|(with_reducible rfl)|((with_reducible first|apply decide_eq_false|apply z17c);omega))|(with_reducible refine yd (by assumption) ?_)|rw[ze])
    obtain⟨h2,e2,p2,M2⟩:=z164 (n:=n) (D:=D) (xs:=[]) (hs _) (by rw[List.append_nil];exact Mx) hx;refine Wp.callN e2 ?_;clear Mx;have Mx:=M2
    repeat(first|(with_reducible apply Wp.obind;exact z4 _ _)|((with_reducible apply y1b Mx);rfl)|((with_reducible apply y42 Mx);rfl)|((with_reducible apply y39 Mx);rfl;rfl;(rfl);clear Mx;intro _ Mx)|((with_reducible apply y3b Mx);rfl)|((with_reducible apply y45 Mx);rfl;rfl;(rfl);clear Mx;intro _ Mx)|((with_reducible refine Wp.chk ?_ ?_);focus ((repeat' (first|(with_reducible exact rfl)|(with_reducible apply z267)|((with_reducible apply y48 Mx);kernel_rfl;kernel_rfl)));done))|(with_reducible first|refine Wp.lett ?_|(apply Wp.obind;exact z11 _))|((with_reducible refine y7 ?_ ?_;apply z17b);omega))
    exact Wp.ret ⟨rfl,Mx.tch⟩
   |ok t=>
    obtain⟨c,T,h',e,kt,M'⟩:∃c T h',z12 (world n (D+2)) n [.int .i64 2,strA u] h=some (.ret (.tup [.agg c,.agg [.int .i64 0,.int .i64 0]]),h')∧NodeT t c T∧Mem [] h h' T:=by
     suffices hK:Wp (z12 (world n (D+2)) n [.int .i64 2,strA u] h) fun r h'=>∃c T,r=.ret (.tup [.agg c,.agg [.int .i64 0,.int .i64 0]])∧NodeT t c T∧Mem [] h h' T by
      obtain⟨_,h',e,c,T,rfl,k1,k2⟩:=hK;exact⟨c,T,h',e,k1,k2⟩
     unfold z12;have ll:=z5b u;have Mx:=Mem.nil [] h
     repeat(first|(with_reducible apply Wp.obind;first|exact z4 _ _|exact z6e _|exact z8 _ _ _)|((with_reducible apply y10 Mx);rfl;rfl;(rfl);clear Mx;intro _ Mx)|((with_reducible apply y1b Mx);rfl)|((with_reducible apply y9 Mx);clear Mx;intro _ Mx)|((with_reducible apply y16 Mx);(rfl);clear Mx;intro _ Mx)|(with_reducible first|refine y8 (fun _ _=>?_)|refine Wp.lett ?_)|((with_reducible refine y7 ?_ ?_);((with_reducible first|apply decide_eq_true|apply z17b);omega))|((with_reducible refine y6 ?_ ?_);first|(with_reducible rfl)|((with_reducible first|apply decide_eq_false|apply z17c);omega))|(with_reducible refine yd (by assumption) ?_)|rw[ze])
     obtain⟨c,T,h2,p2,e2,kt,M2⟩:=z17e (n:=n) (D:=D) (xs:=[]) rfl (hs _) (by rw[List.append_nil];exact Mx) hx;refine Wp.callN e2 ?_;clear Mx;have Mx:=M2;have hl:=kt.len;have ho:=kt.one
     repeat(first|(with_reducible apply Wp.obind;exact z4 _ _)|((with_reducible apply y1b Mx);rfl)|((with_reducible apply y39 Mx);rfl;rfl;(rfl);clear Mx;intro _ Mx)|(with_reducible first|refine Wp.lett ?_|(apply Wp.obind;exact z11 _))|((with_reducible refine y6 ?_ ?_;apply z17c);omega))
     refine y3b Mx hl ?_
     repeat(((with_reducible apply y42 Mx);rfl))
     refine y45 Mx hl hl ho fun _ Mz=>?_;clear Mx;have Mx:=Mz;clear Mz
     repeat(first|((with_reducible apply y39 Mx);rfl;rfl;(rfl);clear Mx;intro _ Mx)|((with_reducible refine Wp.chk ?_ ?_);focus ((repeat' (first|(with_reducible exact rfl)|(with_reducible apply z267)|((with_reducible apply y48 Mx);kernel_rfl;kernel_rfl)));done)))
     refine y3b Mx hl ?_
     repeat(((with_reducible apply y42 Mx);rfl))
     exact Wp.ret ⟨c,T,rfl,kt,Mx.pop.pop.pop.pop.pop⟩
    have M2:=M'
    suffices hK:Wp (gcR h (z12 (world n (D+2)) n [.int .i64 2,strA u] h)) fun r h'=>∃T,r=.ret (.tup [.agg c,.agg [.int .i64 0,.int .i64 0]])∧NodeT t c T∧Mem [] h h' T by
     obtain⟨_,h',e,T,rfl,k1,k2⟩:=hK;rw[←z32] at e;exact⟨c,T,h',e,k1,k2⟩
    refine y5c ⟨_,h',e,⟨T,rfl,kt,M'⟩,fun _ hl=>?_⟩
    have h1:y1e h.next c=true:=by
     have:(y1e h.next c&&(y1e h.next [.int .i64 0,.int .i64 0]&&y1e h.next []))=true:=hl;rw[Bool.and_eq_true] at this;exact this.1
    have hT:T=[]:=kt.low (fun y hy=>(M'.row y hy).2.2.resolve_left (by simp)) h1;subst hT;exact⟨[],rfl,kt,Mem.nil _ _⟩
 ·-- kind 3
  refine⟨?_,?_⟩
  ·intro l n D h hD hn hx
   apply Wp.eq;rw[z32];refine y3c ?_
   suffices hK:Wp (z12 (world n D) n [.int .i64 3,strA u] h) fun r h'=>r=.ret (.tup [.agg (z8a 0 z8e .nsl),.agg [.int .i64 3,.int .i64 64]])∧Tch [] h h' from hK.mono fun r h' ⟨e,t⟩=>⟨t.above,by rw[e];rfl,e,rfl⟩
   unfold z12;have ll:=z5b u;have Mx:=Mem.nil [] h
   repeat(first|(with_reducible apply Wp.obind;first|exact z4 _ _|exact z6e _|exact z8 _ _ _)|((with_reducible apply y15 Mx);rfl)|((with_reducible apply y10 Mx);rfl;rfl;(rfl);clear Mx;intro _ Mx)|((with_reducible apply y1f Mx);rfl)|((with_reducible apply y24 Mx);rfl;rfl;(rfl);clear Mx;intro _ Mx)|((with_reducible apply y1b Mx);rfl)|((with_reducible apply y9 Mx);clear Mx;intro _ Mx)|((with_reducible apply y16 Mx);(rfl);clear Mx;intro _ Mx)|(with_reducible first|refine y8 (fun _ _=>?_)|refine Wp.lett ?_)|((with_reducible refine y7 ?_ ?_);((with_reducible first|apply decide_eq_true|apply z17b);omega))|((with_reducible refine y6 ?_ ?_;apply z17c);omega)|(with_reducible refine yd (by assumption) ?_)|rw[ze])
   exact Wp.ret ⟨rfl,Mx.tch⟩
  ·intro l
   obtain⟨r,r1,r2,r3⟩:=z481 hu 3 hk;refine⟨r,r1,r2,?_⟩;intro n D h hD hn hx;have hs:∀(rd:Nat) (h:AHeap),Rd h rd u 0→rd<h.next→zbb z22 h.ex=false→StepT rd u h (world n D 56 [.ptr rd 0,.int .i64 3] h) r:=fun rd h k1 k2 k3=>r3 (by omega) (by omega) (by omega) k1 k2 k3
   cases r with
   |error q=>
    apply Wp.eq;rw[z32];refine y3c ?_
    suffices hK:Wp (z12 (world n (D+2)) n [.int .i64 3,strA u] h) fun r h'=>r=.ret (.tup [.agg (z8a 0 z8e .nsl),.agg [.int .i64 6,.int .i64 (q:Int)]])∧Tch [] h h' from hK.mono fun r h' ⟨e,t⟩=>⟨t.above,by rw[e];rfl,e,rfl⟩
    unfold z12;have ll:=z5b u;have Mx:=Mem.nil [] h
    repeat(first|(with_reducible apply Wp.obind;first|exact z4 _ _|exact z6e _|exact z8 _ _ _)|((with_reducible apply y10 Mx);rfl;rfl;(rfl);clear Mx;intro _ Mx)|((with_reducible apply y1b Mx);rfl)|((with_reducible apply y9 Mx);clear Mx;intro _ Mx)|((with_reducible apply y16 Mx);(rfl);clear Mx;intro _ Mx)|(with_reducible first|refine y8 (fun _ _=>?_)|refine Wp.lett ?_)|((with_reducible refine y7 ?_ ?_);((with_reducible first|apply decide_eq_true|apply z17b);omega))|((with_reducible refine y6 ?_ ?_);((with_reducible first|apply decide_eq_false|apply z17c);omega))|(with_reducible refine yd (by assumption) ?_)|rw[ze])
    obtain⟨h2,e2,p2,M2⟩:=z164 (n:=n) (D:=D) (xs:=[]) (hs _) (by rw[List.append_nil];exact Mx) hx;refine Wp.callN e2 ?_;clear Mx;have Mx:=M2
    repeat(first|(with_reducible apply Wp.obind;exact z4 _ _)|((with_reducible apply y1b Mx);rfl)|((with_reducible apply y42 Mx);rfl)|((with_reducible apply y39 Mx);rfl;rfl;(rfl);clear Mx;intro _ Mx)|((with_reducible apply y3b Mx);rfl)|((with_reducible apply y45 Mx);rfl;rfl;(rfl);clear Mx;intro _ Mx)|((with_reducible refine Wp.chk ?_ ?_);focus ((repeat' (first|(with_reducible exact rfl)|(with_reducible apply z267)|((with_reducible apply y48 Mx);kernel_rfl;kernel_rfl)));done))|(with_reducible first|refine Wp.lett ?_|(apply Wp.obind;exact z11 _))|((with_reducible refine y7 ?_ ?_;apply z17b);omega))
    exact Wp.ret ⟨rfl,Mx.tch⟩
   |ok t=>
    obtain⟨c,T,h',e,kt,M'⟩:∃c T h',z12 (world n (D+2)) n [.int .i64 3,strA u] h=some (.ret (.tup [.agg c,.agg [.int .i64 0,.int .i64 0]]),h')∧NodeT t c T∧Mem [] h h' T:=by
     suffices hK:Wp (z12 (world n (D+2)) n [.int .i64 3,strA u] h) fun r h'=>∃c T,r=.ret (.tup [.agg c,.agg [.int .i64 0,.int .i64 0]])∧NodeT t c T∧Mem [] h h' T by
      obtain⟨_,h',e,c,T,rfl,k1,k2⟩:=hK;exact⟨c,T,h',e,k1,k2⟩
     unfold z12;have ll:=z5b u;have Mx:=Mem.nil [] h
     repeat(first|(with_reducible apply Wp.obind;first|exact z4 _ _|exact z6e _|exact z8 _ _ _)|((with_reducible apply y10 Mx);rfl;rfl;(rfl);clear Mx;intro _ Mx)|((with_reducible apply y1b Mx);rfl)|((with_reducible apply y9 Mx);clear Mx;intro _ Mx)|((with_reducible apply y16 Mx);(rfl);clear Mx;intro _ Mx)|(with_reducible first|refine y8 (fun _ _=>?_)|refine Wp.lett ?_)|((with_reducible refine y7 ?_ ?_);((with_reducible first|apply decide_eq_true|apply z17b);omega))|((with_reducible refine y6 ?_ ?_);((with_reducible first|apply decide_eq_false|apply z17c);omega))|(with_reducible refine yd (by assumption) ?_)|rw[ze])
     obtain⟨c,T,h2,p2,e2,kt,M2⟩:=z17e (n:=n) (D:=D) (xs:=[]) rfl (hs _) (by rw[List.append_nil];exact Mx) hx;refine Wp.callN e2 ?_;clear Mx;have Mx:=M2;have hl:=kt.len;have ho:=kt.one
     repeat(first|(with_reducible apply Wp.obind;exact z4 _ _)|((with_reducible apply y1b Mx);rfl)|((with_reducible apply y39 Mx);rfl;rfl;(rfl);clear Mx;intro _ Mx)|(with_reducible first|refine Wp.lett ?_|(apply Wp.obind;exact z11 _))|((with_reducible refine y6 ?_ ?_;apply z17c);omega))
     refine y3b Mx hl ?_
     repeat(((with_reducible apply y42 Mx);rfl))
     refine y45 Mx hl hl ho fun _ Mz=>?_;clear Mx;have Mx:=Mz;clear Mz
     repeat(first|((with_reducible apply y39 Mx);rfl;rfl;(rfl);clear Mx;intro _ Mx)|((with_reducible refine Wp.chk ?_ ?_);focus ((repeat' (first|(with_reducible exact rfl)|(with_reducible apply z267)|((with_reducible apply y48 Mx);kernel_rfl;kernel_rfl)));done)))
     refine y3b Mx hl ?_
     repeat(((with_reducible apply y42 Mx);rfl))
     exact Wp.ret ⟨c,T,rfl,kt,Mx.pop.pop.pop.pop.pop⟩
    have M2:=M'
    suffices hK:Wp (gcR h (z12 (world n (D+2)) n [.int .i64 3,strA u] h)) fun r h'=>∃T,r=.ret (.tup [.agg c,.agg [.int .i64 0,.int .i64 0]])∧NodeT t c T∧Mem [] h h' T by
     obtain⟨_,h',e,T,rfl,k1,k2⟩:=hK;rw[←z32] at e;exact⟨c,T,h',e,k1,k2⟩
    refine y5c ⟨_,h',e,⟨T,rfl,kt,M'⟩,fun _ hl=>?_⟩
    have h1:y1e h.next c=true:=by
     have:(y1e h.next c&&(y1e h.next [.int .i64 0,.int .i64 0]&&y1e h.next []))=true:=hl;rw[Bool.and_eq_true] at this;exact this.1
    have hT:T=[]:=kt.low (fun y hy=>(M'.row y hy).2.2.resolve_left (by simp)) h1;subst hT;exact⟨[],rfl,kt,Mem.nil _ _⟩
end
theorem zd5{a b:Nat}(ha:a<18446744073709551616):a&&&b<18446744073709551616:=Nat.lt_of_le_of_lt Nat.and_le_left ha
theorem z114{x y:Nat}(hx:x<18446744073709551616)(hy:y<18446744073709551616):z3ba .u64 (x:Int) (y:Int)=((x&&&y:Nat):Int):=by
 have e:(BitVec.ofInt 64 (x:Int)&&&BitVec.ofInt 64 (y:Int)).toNat=x&&&y:=by
  rw[BitVec.toNat_and,BitVec.toNat_ofInt,BitVec.toNat_ofInt]
  congr 1<;>omega
 unfold z3ba;show IntKind.u64.wrap (((BitVec.ofInt 64 (x:Int)&&&BitVec.ofInt 64 (y:Int)).toNat:Nat):Int)=_;rw[e,z80];have:=zd5 (b:=y) hx;omega
def lackN(x y:Nat):Nat:=x ^^^ (x&&&y)
theorem z425(x y i:Nat):(lackN x y).testBit i=(x.testBit i&& !y.testBit i):=by
 unfold lackN;rw[Nat.testBit_xor,Nat.testBit_and]
 cases x.testBit i<;>cases y.testBit i<;>rfl
theorem z312{x y:Nat}(hx:x<18446744073709551616):lackN x y<18446744073709551616:=by
 unfold lackN;have:=Nat.xor_lt_two_pow (n:=64) (x:=x) (y:=x&&&y) (by omega) (by have:=zd5 (b:=y) hx;omega);omega
theorem z402{x y:Nat}(hx:x<18446744073709551616)(hy:y<18446744073709551616):z362 .u64 (x:Int) (y:Int)=((lackN x y:Nat):Int):=by
 have e:(BitVec.ofInt 64 (x:Int)&&& ~~~ BitVec.ofInt 64 (y:Int)).toNat=lackN x y:=by
  refine Nat.eq_of_testBit_eq fun i=>?_;rw[BitVec.toNat_and,Nat.testBit_and,z425];have e1:(BitVec.ofInt 64 (x:Int)).toNat=x:=by rw[BitVec.toNat_ofInt];omega
  have e2:(BitVec.ofInt 64 (y:Int)).toNat=y:=by rw[BitVec.toNat_ofInt];omega
  rw[e1]
  by_cases hi:i<64
  ·congr 1
   rw[BitVec.testBit_toNat,BitVec.getLsbD_not, ←BitVec.testBit_toNat,e2]
   simp[hi]
  ·rw[Nat.testBit_lt_two_pow (x:=x) (Nat.lt_of_lt_of_le hx (by have:=Nat.pow_le_pow_right (n:=2) (by decide) (show 64≤i by omega);omega)),Bool.false_and,Bool.false_and]
 unfold z362;show IntKind.u64.wrap (((BitVec.ofInt 64 (x:Int)&&& ~~~ BitVec.ofInt 64 (y:Int)).toNat:Nat):Int)=_;rw[e,z80];have:=z312 (y:=y) hx;omega
theorem z3cc{x k:Nat}(hk:k<64):shrI .u64 (x:Int) (k:Int)=some ((x>>>k:Nat):Int):=by
 unfold shrI;rw[if_neg (by omega)]
 have e:min ((k:Int).toNat) IntKind.u64.bits=k:=by
  show min ((k:Int).toNat) 64=k;omega
 rw[e,Int.fdiv_eq_ediv_of_nonneg _ (Int.le_of_lt (Int.pow_pos (by decide))),Nat.shiftRight_eq_div_pow]
 push_cast
 rfl
theorem z379{x k:Nat}(hx:x<18446744073709551616):x>>>k<18446744073709551616:=by
 rw[Nat.shiftRight_eq_div_pow];exact Nat.lt_of_le_of_lt (Nat.div_le_self _ _) hx
theorem z43d(x k:Nat):x>>>k&&&1=(x.testBit k).toNat:=by
 rw[Nat.and_one_is_mod,Nat.toNat_testBit,Nat.shiftRight_eq_div_pow]
theorem low_lt{m:Nat}(hm:m≠0):m&&&(m - 1)<m:=Nat.lt_of_le_of_lt Nat.and_le_right (by omega)
abbrev tzT:List Nat:=[0,1,56,2,57,49,28,3,61,58,42,50,38,29,17,4,62,47,59,36,45,43,51,22,53,39,33,30,24,18,12,5,63,55,48,27,60,41,37,16,46,35,44,21,52,32,23,11,54,26,40,15,34,20,31,10,25,14,19,9,13,8,7,6]
def tzC:List AV:=tzT.map fun (z:Nat)=>AV.int .u8 (z:Int)
def HasTz(h:AHeap):Prop:=h.get 0=some (.glob (T.put .e 0 tzC))∧0<h.next
theorem HasTz.tch{S:List Nat}{h h':AHeap}(k:HasTz h)(t:Tch S h h')(hS:0 ∉ S):HasTz h':=⟨by rw[t.2.2 _ k.2 hS];exact k.1,Nat.lt_of_lt_of_le k.2 t.1⟩
theorem tz_cell{h:AHeap}(k:HasTz h){t:Nat}{v:AV}(hv:tzC[t]? =some v):z7 h (.gptr 0 t)=some v:=by
 simp only[z7,k.1,z3d6,hv]
def tzI(m:Nat):Nat:=(m&&&(18446744073709551616 - m)%18446744073709551616)*285870213051353865%18446744073709551616/288230376151711744
theorem z480(m:Nat):tzI m<64:=by
 unfold tzI;have:=Nat.mod_lt ((m&&&(18446744073709551616 - m)%18446744073709551616)*285870213051353865) (show 0<18446744073709551616 by decide);omega
def tzN(m:Nat):Nat:=tzT.getD (tzI m) 0
theorem tz_all:(List.range 64).all (fun t=>Nat.blt (tzT.getD t 0) 64)=true:=by kernel_rfl
theorem tz_one{t:Nat}(ht:t<64):tzC[t]? =some (.int .u8 ((tzT.getD t 0:Nat):Int))∧tzT.getD t 0<64:=by
 have:=List.all_eq_true.1 tz_all t (List.mem_range.2 ht);have hl:t<tzT.length:=ht;refine⟨?_,by simpa using this⟩;unfold tzC;rw[List.getElem?_map,List.getD_eq_getElem?_getD,List.getElem?_eq_getElem hl];rfl
theorem z47f(m:Nat):tzN m<64:=(tz_one (z480 m)).2
section
variable {n d:Nat}{h:AHeap}
theorem idxA_g{n b o i:Nat}(h:i<n):z313 n 1 (.gptr b o) (i:Int)=some (.gptr b (o+i)):=by
 have e:Nat.blt i n=true:=by simpa using h
 show (match Nat.blt i n with|true=>some (AV.gptr b (o+i*1))|false=>none)=_;rw[e,Nat.mul_one]
theorem tz_w(hT:HasTz h){m:Nat}(hm:m<18446744073709551616)(h0:m≠0):world n (d+1) 79 [.int .u64 (m:Int)] h=some (.ret (.int .i64 (tzN m:Nat)),h):=by
 have:z2d (world n d) n (m:Int) h=some (.ret (.int .i64 (tzN m:Nat)),h):=by
  apply Wp.eq;unfold z2d
  have e1:IntKind.u64.wrap (0 - (m:Int))=(((18446744073709551616 - m)%18446744073709551616:Nat):Int):=by
   rw[z80];omega
  have e2:z3ba .u64 (m:Int) (((18446744073709551616 - m)%18446744073709551616:Nat):Int)=((m&&&(18446744073709551616 - m)%18446744073709551616:Nat):Int):=z114 hm (Nat.mod_lt _ (by decide))
  have e3:IntKind.u64.wrap (((m&&&(18446744073709551616 - m)%18446744073709551616:Nat):Int)*285870213051353865)=(((m&&&(18446744073709551616 - m)%18446744073709551616)*285870213051353865%18446744073709551616:Nat):Int):=by
   rw[z80];rfl
  have e4:shrI .u64 (((m&&&(18446744073709551616 - m)%18446744073709551616)*285870213051353865%18446744073709551616:Nat):Int) 58=some ((tzI m:Nat):Int):=by
   rw[show (58:Int)=((58:Nat):Int) from rfl,z3cc (by decide),Nat.shiftRight_eq_div_pow];rfl
  have e5:=idxA_g (b:=0) (o:=0) (z480 m);obtain⟨e6,e7⟩:=tz_one (z480 m);have e8:=tz_cell hT e6
  have e9:IntKind.i64.wrap ((tzN m:Nat):Int)=((tzN m:Nat):Int):=by
   have:=z47f m;rw[z330 (by omega) (by omega)]
  ((with_reducible refine Wp.lett ?_))
  refine y6 (z83 (by omega)) ?_;refine Wp.lett ?_;rw[e1];refine Wp.lett ?_;rw[e2];refine Wp.lett ?_;rw[e3];refine Wp.obind e4 ?_;refine Wp.obind e5 ?_;rw[Nat.zero_add];refine Wp.obind e8 ?_;refine Wp.obind (z4 _ _) ?_;refine Wp.lett ?_;show Wp (some (ARes.ret (AV.int .i64 (IntKind.i64.wrap ((tzN m:Nat):Int))),h)) _;rw[e9];exact Wp.ret ⟨rfl,rfl⟩
 rw[z149,this,z428 (Above.refl _) rfl]
end
abbrev TNet:Nat:=86
abbrev TBl:Nat:=88
abbrev TPc:Nat:=90
structure Nt where
 empty:Bool
 first:Nat
 last:Nat
 fo:List Nat
 ta:List Nat
structure NtOk (N:Nt):Prop where
 fl:N.fo.length=64
 tl:N.ta.length=256
 f:N.first<18446744073709551616
 l:N.last<18446744073709551616
 fs:∀x∈N.fo,x<18446744073709551616
 ts:∀x∈N.ta,x<18446744073709551616
noncomputable def netC(N:Nt):List AV:=.bool N.empty:: .int .u64 (N.first:Int):: .int .u64 (N.last:Int)::(z1f N.fo++z1f N.ta)
theorem zc1{l:List Nat}(h:∀x∈l,x<18446744073709551616)(i:Nat):l.getD i 0<18446744073709551616:=by
 rw[List.getD_eq_getElem?_getD];cases hx:l[i]? with
 |none=>decide
 |some x=>exact h x (List.mem_of_getElem? hx)
section
variable {N:Nt}
theorem z25a(k:NtOk N):(netC N).length=323:=by
 simp only[netC,List.length_cons,List.length_append,z58,k.fl,k.tl]
theorem net_fo(k:NtOk N){i:Nat}(hi:i<64):(netC N)[3+i]? =some (.int .u64 (N.fo.getD i 0:Int)):=
 z233 (pre:=[.bool N.empty,.int .u64 (N.first:Int),.int .u64 (N.last:Int)]) (by rw[k.fl];exact hi)
theorem z4a4(k:NtOk N){i:Nat}(hi:i<256):(netC N)[67+i]? =some (.int .u64 (N.ta.getD i 0:Int)):=by
 have:=z233 (pre:=.bool N.empty:: .int .u64 (N.first:Int):: .int .u64 (N.last:Int)::z1f N.fo) (post:=[]) (w:=N.ta) (i:=i) (by rw[k.tl];exact hi);rw[List.append_nil,show (AV.bool N.empty:: .int .u64 (N.first:Int):: .int .u64 (N.last:Int)::z1f N.fo).length=67 by simp only[List.length_cons,z58,k.fl]] at this;exact this
theorem z454(k:NtOk N){i x:Nat}(hi:i<64):(netC N).set (3+i) (.int .u64 (x:Int))=netC {N with fo:=N.fo.set i x}:=
 z29f (pre:=[.bool N.empty,.int .u64 (N.first:Int),.int .u64 (N.last:Int)]) (by rw[k.fl];exact hi)
theorem z30b(k:NtOk N){i x:Nat}(hi:i<256):(netC N).set (67+i) (.int .u64 (x:Int))=netC {N with ta:=N.ta.set i x}:=by
 have:=z29f (pre:=.bool N.empty:: .int .u64 (N.first:Int):: .int .u64 (N.last:Int)::z1f N.fo) (post:=[]) (w:=N.ta) (i:=i) (x:=x) (by rw[k.tl];exact hi);rw[List.append_nil,List.append_nil,show (AV.bool N.empty:: .int .u64 (N.first:Int):: .int .u64 (N.last:Int)::z1f N.fo).length=67 by simp only[List.length_cons,z58,k.fl]] at this;exact this
end
def z3df(g:Nat→Nat→Nat):Nat→List Nat→List Nat
 |_,[]=>[]
 |i,x::l=>g i x::z3df g (i+1) l
theorem z290(g:Nat→Nat→Nat):∀(l:List Nat) (i j:Nat),(z3df g i l)[j]? =(l[j]?).map (g (i+j))
 |[],_,_=>rfl
 |_::_,_,0=>rfl
 |_::l,i,j+1=>by
  show (z3df g (i+1) l)[j]? =_;rw[z290 g l (i+1) j,show i+1+j=i+(j+1) by omega];rfl
theorem z22a(g:Nat→Nat→Nat):∀(l:List Nat) (i:Nat),(z3df g i l).length=l.length
 |[],_=>rfl
 |_::l,i=>by rw[z3df,List.length_cons,List.length_cons,z22a g l (i+1)]
theorem z1cd{g:Nat→Nat→Nat}{l:List Nat}{i:Nat}(hl:∀x∈l,x<18446744073709551616)(hg:∀i x,x<18446744073709551616→g i x<18446744073709551616):∀x∈z3df g i l,x<18446744073709551616:=by
 intro x hx;obtain⟨j,hj⟩:=List.mem_iff_getElem?.1 hx;rw[z290] at hj;obtain⟨y,hy,rfl⟩:=Option.map_eq_some_iff.1 hj;exact hg _ _ (hl y (List.mem_of_getElem? hy))
def upd(g:Nat→Nat→Nat)(k:Nat)(l:List Nat):List Nat:=z3df (fun c x=>if c<k then g c x else x) 0 l
section
variable {g:Nat→Nat→Nat}{k:Nat}{l:List Nat}
theorem z1ef(j:Nat):(upd g k l)[j]? =(l[j]?).map fun x=>if j<k then g j x else x:=by
 unfold upd;rw[z290,Nat.zero_add]
theorem z334:(upd g k l).length=l.length:=z22a _ _ _
theorem z333:upd g 0 l=l:=by
 refine List.ext_getElem? fun j=>?_;rw[z1ef]
 simp
theorem z336(h:l.length=k):upd g k l=z3df g 0 l:=by
 refine List.ext_getElem? fun j=>?_;rw[z1ef,z290,Nat.zero_add];cases hx:l[j]? with
 |none=>rfl
 |some x=>
  have:j<l.length:=(List.getElem?_eq_some_iff.1 hx).1;rw[Option.map_some,Option.map_some,if_pos (by omega)]
theorem z335:(upd g k l).getD k 0=l.getD k 0:=by
 rw[List.getD_eq_getElem?_getD,List.getD_eq_getElem?_getD,z1ef]
 simp
theorem z3c5(h:k<l.length):(upd g k l).set k (g k (l.getD k 0))=upd g (k+1) l:=by
 refine List.ext_getElem? fun j=>?_;rw[List.getElem?_set,z1ef,z1ef,z334]
 by_cases hj:k=j
 ·subst hj
  rw[if_pos rfl,if_pos h,List.getElem?_eq_getElem h,Option.map_some,if_pos (by omega),List.getD_eq_getElem?_getD,List.getElem?_eq_getElem h];rfl
 ·rw [if_neg hj]
  congr 1
  funext x
  by_cases h2:j<k
  ·rw[if_pos h2,if_pos (by omega)]
  ·rw[if_neg h2,if_neg (by omega)]
theorem z40a(hg:g k (l.getD k 0)=l.getD k 0):upd g k l=upd g (k+1) l:=by
 refine List.ext_getElem? fun j=>?_;rw[z1ef,z1ef];cases hx:l[j]? with
 |none=>rfl
 |some x=>
  rw[Option.map_some,Option.map_some]
  by_cases hj:j=k
  ·subst hj
   rw[List.getD_eq_getElem?_getD,hx] at hg;rw[if_neg (by omega),if_pos (by omega)];exact congrArg some hg.symm
  ·by_cases h2 : j < k
   ·rw[if_pos h2,if_pos (by omega)]
   ·rw[if_neg h2,if_neg (by omega)]
theorem z29a(hl:∀x∈l,x<18446744073709551616)(hg:∀i x,x<18446744073709551616→g i x<18446744073709551616):∀x∈upd g k l,x<18446744073709551616:=z1cd hl fun i x hx=>by
 show (if i<k then g i x else x)<18446744073709551616
 split
 ·exact hg i x hx
 ·exact hx
end
def folG(those these i x:Nat):Nat:=if those.testBit i=true then x|||these else x
theorem z318{those these:Nat}(h:these<18446744073709551616)(i x:Nat)(hx:x<18446744073709551616):folG those these i x<18446744073709551616:=by
 unfold folG
 split
 ·exact zc6 hx h
 ·exact hx
def Nt.follow(N:Nt)(those these:Nat):Nt:={N with fo:=z3df (folG those these) 0 N.fo}
theorem NtOk.follow{N:Nt}(k:NtOk N){those these:Nat}(h:these<18446744073709551616):NtOk (N.follow those these):=
 ⟨by show (z3df _ _ _).length=_;rw[z22a];exact k.fl,k.tl,k.f,k.l,z1cd k.fs fun i x hx=>z318 h i x hx,k.ts⟩
section
variable {N:Nt}{n d b nb these those:Nat}{v:AV}{h:AHeap}{Q:ARes→AHeap→Prop}
theorem z205{k3:AHeap→R}(hN:NtOk N)(hs:these<18446744073709551616)(ht:those<18446744073709551616)(hne:b≠nb):∀(m f i:Nat) (H:AHeap),m<f→i+m=64→RowH H b TBl [.ptr nb 0,v]→b<H.next→RowH H nb TNet (netC {N with fo:=upd (folG those these) i N.fo})→
  (∀H',RowH H' nb TNet (netC (N.follow those these))→Tch [nb] H H'→Wp (k3 H') Q)→Wp (z69 (.ptr b 0) (those:Int) (these:Int) k3 f (i:Int) H) Q
 |_,0,_,_,hf,_,_,_,_,_=>by omega
 |0,f+1,i,H,hf,hm,kb,hb,kn,hk=>by
  rw[zae];unfold z5d
  repeat(first|(with_reducible refine Wp.lett ?_)|((with_reducible refine y6 ?_ ?_;apply decide_eq_false);omega))
  refine hk H ?_ (Tch.refl _ _);have:i=64:=by omega
  subst this;rw[z336 hN.fl] at kn;exact kn
 |m+1,f+1,i,H,hf,hm,kb,hb,kn,hk=>by
  rw[zae];unfold z5d;have hi:i<64:=by omega
  have hN2:NtOk {N with fo:=upd (folG those these) i N.fo}:=⟨by show (upd _ _ _).length=_;rw[z334];exact hN.fl,hN.tl,hN.f,hN.l,z29a hN.fs fun i x hx=>z318 hs i x hx,hN.ts⟩;have e1:=z3cc (x:=those) hi
  have e2:z3ba .u64 ((those>>>i:Nat):Int) 1=(((those.testBit i).toNat:Nat):Int):=by
   rw[show (1:Int)=((1:Nat):Int) from rfl,z114 (z379 ht) (by decide),z43d]
  have el:(i:Int)+1=((i+1:Nat):Int):=by omega
  repeat(first|(with_reducible first|refine yf (fun _ _=>?_)|refine Wp.lett ?_|(apply Wp.obind;exact e1))|((with_reducible refine y7 ?_ ?_);((with_reducible first|apply decide_eq_true|apply z66);omega)))
  rw[e2];cases hbit:those.testBit i with
  |false=>
   refine y6 rfl ?_
   repeat(first|((with_reducible refine ye ?_ ?_ ?_);omega;omega)|(with_reducible refine y26 (by assumption) ?_))
   rw[el];refine z205 hN hs ht hne m f (i+1) H (by omega) (by omega) kb hb ?_ hk;rw[←z40a (g:=folG those these) (k:=i) (l:=N.fo) (by unfold folG;rw[hbit,if_neg Bool.false_ne_true])];exact kn
  |true=>
   have c1:z7 H (.ptr b (0+0))=some (.ptr nb 0):=y5 kb rfl;have e3:=z15f (b:=nb) (o:=0+3) hi;have c2:z7 H (.ptr nb (0+3+i))=some (.int .u64 (N.fo.getD i 0:Int)):=y5 kn (by rw[Nat.zero_add,net_fo hN2 hi];show some (AV.int .u64 (((upd _ _ _).getD i 0:Nat):Int))=_;rw[z335]);refine y7 rfl ?_
   repeat(with_reducible first|refine Wp.lett ?_|(apply Wp.obind;first|exact c1|exact e3|exact c2|exact z4 _ _|exact z10 _ _|exact z8 _ _ _))
   rw[z14b (zc1 hN.fs i) hs];refine Wp.st1 kn (by rw[z25a hN2];omega) rfl fun h' k' t' _=>?_;rw[Nat.zero_add,z454 hN2 hi] at k'
   repeat(first|((with_reducible refine ye ?_ ?_ ?_);omega;omega)|(with_reducible refine y26 (by assumption) ?_))
   rw[el];refine z205 hN hs ht hne m f (i+1) h' (by omega) (by omega) (kb.tch t' hb (by simpa using hne)) (Nat.lt_of_lt_of_le hb t'.1) ?_ fun H' k2 t2=>hk H' k2 (t'.trans t2);have hu:=z3c5 (g:=folG those these) (k:=i) (l:=N.fo) (by rw[hN.fl];exact hi);have hg:folG those these i (N.fo.getD i 0)=N.fo.getD i 0|||these:=by unfold folG;rw[hbit,if_pos rfl]
   rw[hg] at hu;rw[←hu];exact k'
theorem z350(hN:NtOk N)(hs:these<18446744073709551616)(ht:those<18446744073709551616)(hn:64<n)(hne:b≠nb)(kb:RowH h b TBl [.ptr nb 0,v])(hb:b<h.next)(kn:RowH h nb TNet (netC N)):∃h',world n (d+1) 59 [.ptr b 0,.int .u64 (those:Int),.int .u64 (these:Int)] h=some (.ret (.tup []),h')∧RowH h' nb TNet (netC (N.follow those these))∧Tch [nb] h h':=by
 apply Wp.ex;rw[z1dc];unfold z70
 ((with_reducible refine yf (fun _ _=>?_)))
 rename_i k3 ek3;refine z205 hN hs ht hne 64 n 0 h (by omega) rfl kb hb (by rw[z333];exact kn) fun H' k2 t2=>?_
 repeat((with_reducible refine y26 (by assumption) ?_))
 exact Wp.ret ⟨rfl,k2,t2⟩
end
def inW(w:List Nat)(i:Nat):Bool:=(w.getD (i/64) 0).testBit (i%64)
def bitN(u:Nat):Nat:=if u<64 then 2 ^ u else 0
theorem z1d7(u:Nat):bitN u<18446744073709551616:=by
 unfold bitN
 split
 ·exact z172 (by assumption)
 ·decide
theorem shlI_bit{u:Nat}:shlI .u64 1 (u:Int)=some ((bitN u:Nat):Int):=by
 unfold bitN
 by_cases h:u<64
 ·rw [if_pos h]
  exact z338 h
 ·rw [if_neg h]
  unfold shlI;rw[if_neg (by omega)]
  have e:min ((u:Int).toNat) IntKind.u64.bits=64:=by
   show min ((u:Int).toNat) 64=64;omega
  rw[e,z80];rfl
def plG(w:List Nat)(bit i x:Nat):Nat:=if inW w i=true then x|||bit else x
theorem z380{w:List Nat}{bit:Nat}(h:bit<18446744073709551616)(i x:Nat)(hx:x<18446744073709551616):plG w bit i x<18446744073709551616:=by
 unfold plG
 split
 ·exact zc6 hx h
 ·exact hx
def Nt.place(N:Nt)(w:List Nat)(bit:Nat):Nt:={N with ta:=z3df (plG w bit) 0 N.ta}
theorem NtOk.place{N:Nt}(k:NtOk N){w:List Nat}{bit:Nat}(h:bit<18446744073709551616):NtOk (N.place w bit):=
 ⟨k.fl,by show (z3df _ _ _).length=_;rw[z22a];exact k.tl,k.f,k.l,k.fs,z1cd k.ts fun i x hx=>z380 h i x hx⟩
structure Pc where
 empty:Bool
 first:Nat
 last:Nat
structure PcOk (p:Pc):Prop where
 f:p.first<18446744073709551616
 l:p.last<18446744073709551616
def pcC(p:Pc):List AV:=[.bool p.empty,.int .u64 (p.first:Int),.int .u64 (p.last:Int)]
def behN(p q:Pc):Pc:=⟨p.empty&&q.empty,if p.empty=true then p.first|||q.first else p.first,if q.empty=true then q.last|||p.last else q.last⟩
theorem behN_ok{p q:Pc}(a:PcOk p)(b:PcOk q):PcOk (behN p q):=by
 constructor
 ·show (if p.empty = true then _ else _) < _
  split
  ·exact zc6 a.f b.f
  ·exact a.f
 ·show (if q.empty = true then _ else _) < _
  split
  ·exact zc6 b.l a.l
  ·exact b.l
theorem y38{h:AHeap}{b c:Nat}{e f:TypeId}{l m:List AV}(k1:RowH h b e l)(h1:b<h.next)(k2:RowH h c f m)(h2:c<h.next)(hne:b≠c):Mem [b,c] h h [(b,e,l),(c,f,m)]:=
 ⟨by simpa using ⟨⟨k1,h1⟩,k2,h2⟩,by simpa using hne,Tch.refl _ _⟩
section
variable {N:Nt}{n d b nb used:Nat}{v:AV}{h:AHeap}{Q:ARes→AHeap→Prop}{w:List Nat}{p q:Pc}
theorem z251{k25:AHeap→R}{pb bit:Nat}{e:TypeId}(hN:NtOk N)(hw:WordsOk w)(hs:bit<18446744073709551616)(hne:b≠nb)(hnp:pb≠nb):∀(m f i:Nat) (H:AHeap),m<f→i+m=256→RowH H b TBl [.ptr nb 0,v]→b<H.next→RowH H pb e (z1f w)→pb<H.next→RowH H nb TNet (netC {N with ta:=upd (plG w bit) i N.ta})→
  (∀H',RowH H' nb TNet (netC (N.place w bit))→Tch [nb] H H'→Wp (k25 H') Q)→Wp (z75 (.ptr b 0) (.ptr pb 0) (bit:Int) k25 f (i:Int) H) Q
 |_,0,_,_,hf,_,_,_,_,_,_,_=>by omega
 |0,f+1,i,H,hf,hm,kb,hb,kp,hp,kn,hk=>by
  rw[zc2];unfold z68
  repeat(first|(with_reducible refine Wp.lett ?_)|((with_reducible refine y6 ?_ ?_;apply decide_eq_false);omega))
  refine hk H ?_ (Tch.refl _ _);have:i=256:=by omega
  subst this;rw[z336 hN.tl] at kn;exact kn
 |m+1,f+1,i,H,hf,hm,kb,hb,kp,hp,kn,hk=>by
  rw[zc2];unfold z68;have hi:i<256:=by omega
  have hi4:i/64<4:=by omega
  have hN2:NtOk {N with ta:=upd (plG w bit) i N.ta}:=⟨hN.fl,by show (upd _ _ _).length=_;rw[z334];exact hN.tl,hN.f,hN.l,hN.fs,z29a hN.ts fun i x hx=>z380 hs i x hx⟩;have q1:=z492 (c:=i) (by omega);have q2:=z15f (b:=pb) (o:=0) hi4;have q3:=z48d (c:=i);have g1:=z233 (pre:=[]) (post:=[]) (w:=w) (i:=i/64) (by rw[hw.len];exact hi4);rw[List.append_nil,List.nil_append,List.length_nil] at g1;have q4:z7 H (.ptr pb (0+i/64))=some (.int .u64 ((w.getD (i/64) 0:Nat):Int)):=y5 kp g1;have e1:=z3cc (x:=w.getD (i/64) 0) (Nat.mod_lt i (show 0<64 by decide))
  have e2:z3ba .u64 ((w.getD (i/64) 0>>>(i%64):Nat):Int) 1=(((inW w i).toNat:Nat):Int):=by
   rw[show (1:Int)=((1:Nat):Int) from rfl,z114 (z379 (hw.get _)) (by decide),z43d];rfl
  have el:(i:Int)+1=((i+1:Nat):Int):=by omega
  repeat(first|(with_reducible first|refine yf (fun _ _=>?_)|refine Wp.lett ?_|(apply Wp.obind;first|exact q1|exact q2|exact q3|exact q4|exact e1|exact z4 _ _))|((with_reducible refine y7 ?_ ?_);((with_reducible first|apply decide_eq_true|apply z66);omega)))
  rw[e2];cases hbit:inW w i with
  |false=>
   refine y6 rfl ?_
   repeat(first|((with_reducible refine ye ?_ ?_ ?_);omega;omega)|(with_reducible refine y26 (by assumption) ?_))
   rw[el];refine z251 hN hw hs hne hnp m f (i+1) H (by omega) (by omega) kb hb kp hp ?_ hk;rw[←z40a (g:=plG w bit) (k:=i) (l:=N.ta) (by unfold plG;rw[hbit,if_neg Bool.false_ne_true])];exact kn
  |true=>
   have c1:z7 H (.ptr b (0+0))=some (.ptr nb 0):=y5 kb rfl;have e3:=z15f (b:=nb) (o:=0+67) hi;have c2:z7 H (.ptr nb (0+67+i))=some (.int .u64 (N.ta.getD i 0:Int)):=y5 kn (by rw[Nat.zero_add,z4a4 hN2 hi];show some (AV.int .u64 (((upd _ _ _).getD i 0:Nat):Int))=_;rw[z335]);refine y7 rfl ?_
   repeat(with_reducible first|refine Wp.lett ?_|(apply Wp.obind;first|exact c1|exact e3|exact c2|exact z4 _ _|exact z10 _ _|exact z8 _ _ _))
   rw[z14b (zc1 hN.ts i) hs];refine Wp.st1 kn (by rw[z25a hN2];omega) rfl fun h' k' t' _=>?_;rw[Nat.zero_add,z30b hN2 hi] at k'
   repeat(first|((with_reducible refine ye ?_ ?_ ?_);omega;omega)|(with_reducible refine y26 (by assumption) ?_))
   rw[el];refine z251 hN hw hs hne hnp m f (i+1) h' (by omega) (by omega) (kb.tch t' hb (by simpa using hne)) (Nat.lt_of_lt_of_le hb t'.1) (kp.tch t' hp (by simpa using hnp)) (Nat.lt_of_lt_of_le hp t'.1) ?_ fun H' k2 t2=>hk H' k2 (t'.trans t2);have hu:=z3c5 (g:=plG w bit) (k:=i) (l:=N.ta) (by rw[hN.tl];exact hi);have hg:plG w bit i (N.ta.getD i 0)=N.ta.getD i 0|||bit:=by unfold plG;rw[hbit,if_pos rfl]
   rw[hg] at hu;rw[←hu];exact k'
theorem place_r(hN:NtOk N)(hw:WordsOk w)(hn:256<n)(hu:used<1000000)(hne:b≠nb)(kb:RowH h b TBl [.ptr nb 0,.int .i64 (used:Int)])(hb:b<h.next)(kn:RowH h nb TNet (netC N))(hnb:nb<h.next):
  ∃h',world n (d+1) 57 [.ptr b 0,.agg (z1f w)] h=some (.ret (.agg (pcC ⟨false,bitN used,bitN used⟩)),h')∧RowH h' b TBl [.ptr nb 0,.int .i64 ((used+1:Nat):Int)]∧RowH h' nb TNet (netC (N.place w (bitN used)))∧Tch [b,nb] h h':=by
 apply Wp.ex;rw[z1ed];unfold z81;have Mx:=y38 kb hb kn hnb hne;have o1:=z1c7 w;have el:(used:Int)+1=((used+1:Nat):Int):=by omega
 refine y16 Mx o1 fun h1 M1=>?_;clear Mx;have Mx:=M1;clear M1;have sh:=shlI_bit (u:=used)
 repeat(first|(with_reducible apply Wp.obind;first|exact z4 _ _|exact z10 _ _|exact z8 _ _ _)|((with_reducible apply y1b Mx);rfl)|((with_reducible apply Wp.ms2 Mx);exact Nat.le_of_ble_eq_true rfl;rfl;clear Mx;intro _ Mx)|((with_reducible apply y9 Mx);clear Mx;intro _ Mx)|(with_reducible refine yf (fun _ _=>?_))|((with_reducible refine ye ?_ ?_ ?_);omega;omega)|(with_reducible apply Wp.obind;exact sh))
 rename_i k25 ek25;obtain⟨kp,hp,_⟩:=Mx.at1;obtain⟨kb2,hb2,_⟩:=Mx.at2;obtain⟨kn2,hn2,_⟩:=Mx.at3;have ap:=Mx.apart;simp only[List.map_cons,List.map_nil,List.nodup_cons,List.mem_cons,List.not_mem_nil,or_false,not_or] at ap;refine z251 hN hw (z1d7 used) hne ap.2.1.2 256 n 0 _ (by omega) rfl kb2 hb2 kp hp (by rw[z333];exact kn2) fun H' k2 t2=>?_;have M2:=y17 (xs:=[_,_,_]) Mx t2 k2;clear Mx;have Mx:=M2;clear M2;rw[ek25];simp only[List.cons_append,List.nil_append] at Mx
 repeat(first|((with_reducible apply y15 Mx);rfl)|((with_reducible apply y10 Mx);rfl;rfl;(rfl);clear Mx;intro _ Mx)|rw[ze])
 refine Wp.ret ⟨rfl,?_,Mx.at3.1,Mx.tch⟩;have:=Mx.at2.1;rw[el] at this;exact this
theorem z499(p:Pc):(pcC p).all AV.one=true:=rfl
theorem behind_r(hN:NtOk N)(hp:PcOk p)(hq:PcOk q)(hn:64<n)(hne:b≠nb)(kb:RowH h b TBl [.ptr nb 0,v])(hb:b<h.next)(kn:RowH h nb TNet (netC N))(hnb:nb<h.next):
  ∃h',world n (d+2) 58 [.ptr b 0,.agg (pcC p),.agg (pcC q)] h=some (.ret (.agg (pcC (behN p q))),h')∧RowH h' b TBl [.ptr nb 0,v]∧RowH h' nb TNet (netC (N.follow p.last q.first))∧Tch [b,nb] h h':=by
 apply Wp.ex;rw[z1dd];unfold z71;have Mx:=y38 kb hb kn hnb hne;refine y16 Mx (z499 p) fun h1 M1=>?_;refine y16 M1 (z499 q) fun h2 M2=>?_;clear Mx M1;have Mx:=M2;clear M2;have e1:=fun (H:AHeap) (M:Mem [b,nb] h H ((h2.next,TPc,[.bool false,.int .u64 0,.int .u64 0])::(h1.next,TPc,pcC q)::(h.next,TPc,pcC p)::(b,TBl,[.ptr nb 0,v])::[(nb,TNet,netC N)]))=>z350 (n:=n) (d:=d) (h:=H) hN hq.f hp.l hn hne M.at3.1 M.at3.2.1 M.at4.1;unfold pcC at Mx e1
 repeat(first|(with_reducible apply Wp.obind;first|exact z4 _ _|exact z8 _ _ _)|((with_reducible apply y2f Mx);rfl)|((with_reducible apply y1b Mx);rfl)|((with_reducible apply y9 Mx);clear Mx;intro _ Mx)|rw[ze])
 refine Wp.cl4 (e1 _ Mx) Mx fun h3 M3=>?_;clear Mx;have Mx:=M3;clear M3;have oq:=z14b hq.l hp.l;have op:=z14b hp.f hq.f;cases hpe:p.empty with
 |false=>
  cases hqe:q.empty with
  |false=>
   rw[hpe,hqe] at Mx
   repeat(first|(with_reducible apply Wp.obind;first|exact z4 _ _|exact z5 _|exact z8 _ _ _)|((with_reducible apply y15 Mx);rfl)|((with_reducible apply y10 Mx);rfl;rfl;(rfl);clear Mx;intro _ Mx)|((with_reducible apply y2f Mx);rfl)|((with_reducible apply y1f Mx);rfl)|((with_reducible apply y24 Mx);rfl;rfl;(rfl);clear Mx;intro _ Mx)|((with_reducible apply y1b Mx);rfl)|((with_reducible apply y5b Mx);rfl)|((with_reducible apply y9 Mx);clear Mx;intro _ Mx)|(with_reducible first|(first|refine yf (fun _ _=>?_)|refine y8 (fun _ _=>?_))|(refine y6 ?_ ?_;rfl)|(first|refine y26 (by assumption) ?_|refine yd (by assumption) ?_))|rw[ze])
   exact Wp.ret ⟨by unfold pcC behN;rw[hpe,hqe];rfl,Mx.at4.1,Mx.at5.1,Mx.tch⟩
  |true=>
   rw[hpe,hqe] at Mx
   repeat(first|(with_reducible apply Wp.obind;first|exact z4 _ _|exact z5 _|exact z8 _ _ _)|((with_reducible apply y20 Mx);rfl)|((with_reducible apply y15 Mx);rfl)|((with_reducible apply y41 Mx);exact Nat.le_of_ble_eq_true rfl;rfl;clear Mx;intro _ Mx)|((with_reducible apply y10 Mx);rfl;rfl;(rfl);clear Mx;intro _ Mx)|((with_reducible apply y2f Mx);rfl)|((with_reducible apply y1f Mx);rfl)|((with_reducible apply y24 Mx);rfl;rfl;(rfl);clear Mx;intro _ Mx)|((with_reducible apply y1b Mx);rfl)|((with_reducible apply y5b Mx);rfl)|((with_reducible apply y9 Mx);clear Mx;intro _ Mx)|(with_reducible first|(first|refine yf (fun _ _=>?_)|refine y8 (fun _ _=>?_))|refine Wp.lett ?_|(refine y7 ?_ ?_;rfl)|(refine y6 ?_ ?_;rfl)|(first|refine y26 (by assumption) ?_|refine yd (by assumption) ?_))|rw[ze])
   rw[oq];exact Wp.ret ⟨by unfold pcC behN;rw[hpe,hqe];rfl,Mx.at4.1,Mx.at5.1,Mx.tch⟩
 |true=>
  cases hqe:q.empty with
  |false=>
   rw[hpe,hqe] at Mx
   repeat(first|(with_reducible apply Wp.obind;first|exact z4 _ _|exact z5 _|exact z8 _ _ _)|((with_reducible apply y20 Mx);rfl)|((with_reducible apply y15 Mx);rfl)|((with_reducible apply y41 Mx);exact Nat.le_of_ble_eq_true rfl;rfl;clear Mx;intro _ Mx)|((with_reducible apply y10 Mx);rfl;rfl;(rfl);clear Mx;intro _ Mx)|((with_reducible apply y2f Mx);rfl)|((with_reducible apply y1f Mx);rfl)|((with_reducible apply y24 Mx);rfl;rfl;(rfl);clear Mx;intro _ Mx)|((with_reducible apply y1b Mx);rfl)|((with_reducible apply y5b Mx);rfl)|((with_reducible apply y9 Mx);clear Mx;intro _ Mx)|(with_reducible first|(first|refine yf (fun _ _=>?_)|refine y8 (fun _ _=>?_))|refine Wp.lett ?_|(refine y7 ?_ ?_;rfl)|(refine y6 ?_ ?_;rfl)|(first|refine y26 (by assumption) ?_|refine yd (by assumption) ?_))|rw[ze])
   rw[op];exact Wp.ret ⟨by unfold pcC behN;rw[hpe,hqe];rfl,Mx.at4.1,Mx.at5.1,Mx.tch⟩
  |true=>
   rw[hpe,hqe] at Mx
   repeat(first|(with_reducible apply Wp.obind;first|exact z4 _ _|exact z5 _|exact z8 _ _ _)|((with_reducible apply y20 Mx);rfl)|((with_reducible apply y15 Mx);rfl)|((with_reducible apply y41 Mx);exact Nat.le_of_ble_eq_true rfl;rfl;clear Mx;intro _ Mx)|((with_reducible apply y10 Mx);rfl;rfl;(rfl);clear Mx;intro _ Mx)|((with_reducible apply y2f Mx);rfl)|((with_reducible apply y1f Mx);rfl)|((with_reducible apply y24 Mx);rfl;rfl;(rfl);clear Mx;intro _ Mx)|((with_reducible apply y1b Mx);rfl)|((with_reducible apply y5b Mx);rfl)|((with_reducible apply y9 Mx);clear Mx;intro _ Mx)|(with_reducible first|(first|refine yf (fun _ _=>?_)|refine y8 (fun _ _=>?_))|refine Wp.lett ?_|(refine y7 ?_ ?_;rfl)|(first|refine y26 (by assumption) ?_|refine yd (by assumption) ?_))|rw[ze])
   rw[op];rw[oq];exact Wp.ret ⟨by unfold pcC behN;rw[hpe,hqe];rfl,Mx.at4.1,Mx.at5.1,Mx.tch⟩
end
section
variable {h:AHeap}{l:List AV}{i:Nat}{v:AV}
set_option maxRecDepth 100000 in
theorem idx64(hi:i<64)(hl:l[i]? =some v):zcc Tryd.prog h 83 (some (.agg l)) (some (.int .i64 (i:Int)))=some (.val v,h):=by
 have e:Nat.blt i 64=true:=by simpa using hi
 have:zcc Tryd.prog h 83 (some (.agg l)) (some (.int .i64 (i:Int)))=(if Nat.blt i 64=true then z1a5 h l[i*1]? else none):=by kernel_rfl
 rw[this,if_pos e,Nat.mul_one,hl];rfl
set_option maxRecDepth 100000 in
theorem idx256(hi:i<256)(hl:l[i]? =some v):zcc Tryd.prog h 84 (some (.agg l)) (some (.int .i64 (i:Int)))=some (.val v,h):=by
 have e:Nat.blt i 256=true:=by simpa using hi
 have:zcc Tryd.prog h 84 (some (.agg l)) (some (.int .i64 (i:Int)))=(if Nat.blt i 256=true then z1a5 h l[i*1]? else none):=by kernel_rfl
 rw[this,if_pos e,Nat.mul_one,hl];rfl
end
theorem z367{w:List Nat}{i:Nat}(h:i<w.length):(z1f w)[i]? =some (.int .u64 ((w.getD i 0:Nat):Int)):=by
 unfold z1f;rw[List.getElem?_map,List.getD_eq_getElem?_getD,List.getElem?_eq_getElem h];rfl
def aheadF(fo:List Nat)(these:Nat):Nat→Nat
 |0=>0
 |i+1=>if fo.getD i 0&&&these≠0 then aheadF fo these i|||2 ^ i else aheadF fo these i
theorem z106{fo:List Nat}{these:Nat}:∀(i:Nat),i≤64→aheadF fo these i<18446744073709551616
 |0,_=>by
  show 0<_;decide
 |i+1,h=>by
  rw[aheadF]
  split
  ·exact zc6 (z106 i (by omega)) (z172 (by omega))
  ·exact z106 i (by omega)
def orF(ta:List Nat):Nat→Nat
 |0=>0
 |i+1=>orF ta i|||ta.getD i 0
theorem z2ab{ta:List Nat}(h:∀x∈ta,x<18446744073709551616):∀(i:Nat),orF ta i<18446744073709551616
 |0=>by
  show 0<_;decide
 |i+1=>zc6 (z2ab h i) (zc1 h i)
def z2e7(fo:List Nat)(sm live:Nat):Nat:=lackN (aheadF fo live 64&&&sm) live
theorem z188(fo:List Nat)(sm live:Nat):z2e7 fo sm live<18446744073709551616:=z312 (zd5 (z106 64 (Nat.le_refl _)))
theorem more_up{fo:List Nat}{sm live:Nat}(h:z2e7 fo sm live≠0):live<live|||z2e7 fo sm live:=by
 refine Nat.lt_of_le_of_ne Nat.left_le_or fun e=>h ?_;refine Nat.eq_of_testBit_eq fun i=>?_;rw[Nat.zero_testBit];cases hb:(z2e7 fo sm live).testBit i with
 |false=>rfl
 |true=>
  have h2:live.testBit i=true:=by rw[e,Nat.testBit_or,hb,Bool.or_true]
  unfold z2e7 at hb;rw[z425,h2] at hb
  simp at hb
def z3e2(fo:List Nat)(sm:Nat):Nat→Nat→Nat→Nat
 |0,live,_=>live
 |f+1,live,more=>if more=0 then live else z3e2 fo sm f (live|||z2e7 fo sm live) (z2e7 fo sm live)
theorem z2bd{fo:List Nat}{sm:Nat}:∀(f:Nat) {live:Nat} (more:Nat),live<18446744073709551616→z3e2 fo sm f live more<18446744073709551616
 |0,_,_,h=>h
 |f+1,_,_,h=>by
  rw[z3e2]
  split
  ·exact h
  ·exact z2bd f _ (zc6 h (z188 _ _ _))
def cutG(live _i x:Nat):Nat:=x&&&live
def Nt.live(N:Nt):Nat:=z3e2 N.fo (orF N.ta 256) 18446744073709551620 (N.last&&&orF N.ta 256) (N.last&&&orF N.ta 256)
def Nt.trim(N:Nt):Nt:={N with first:=N.first&&&N.live,ta:=z3df (cutG N.live) 0 N.ta}
theorem NtOk.trim{N:Nt}(k:NtOk N):NtOk N.trim:=
 ⟨k.fl,by show (z3df _ _ _).length=_;rw[z22a];exact k.tl,zd5 k.f,k.l,k.fs,z1cd k.ts fun i x hx=>zd5 hx⟩
theorem y57{N:Nt}(k:NtOk N):N.live<18446744073709551616:=z2bd _ _ (zd5 k.l)
def behF(fo:List Nat):Nat→Nat→Nat→Nat
 |0,_,acc=>acc
 |f+1,m,acc=>if m=0 then acc else behF fo f (m&&&(m - 1)) (acc|||fo.getD (tzN m) 0)
theorem z329{fo:List Nat}(hf:∀x∈fo,x<18446744073709551616):∀(f m:Nat) {acc:Nat},acc<18446744073709551616→behF fo f m acc<18446744073709551616
 |0,_,_,h=>h
 |f+1,_,_,h=>by
  rw[behF]
  split
  ·exact h
  ·exact z329 hf f _ (zc6 h (zc1 hf _))
def Nt.behind(N:Nt)(m:Nat):Nat:=behF N.fo 18446744073709551620 m 0
theorem Nt.behind_small{N:Nt}(k:NtOk N)(m:Nat):N.behind m<18446744073709551616:=z329 k.fs _ _ (by decide)
section
variable {N:Nt}{n d nb:Nat}{h:AHeap}{Q:ARes→AHeap→Prop}
theorem z4a5(k:NtOk N):((netC N).drop 3).take 64=z1f N.fo:=by
 show (z1f N.fo++z1f N.ta).take 64=_;rw[List.take_append_of_le_length (by rw[z58,k.fl];exact Nat.le_refl _),List.take_of_length_le (by rw[z58,k.fl];exact Nat.le_refl _)]
theorem z455(k:NtOk N):((netC N).drop 67).take 256=z1f N.ta:=by
 show ((z1f N.fo++z1f N.ta).drop 64).take 256=_;rw[List.drop_append_of_le_length (by rw[z58,k.fl];exact Nat.le_refl _),List.drop_of_length_le (by rw[z58,k.fl];exact Nat.le_refl _),List.nil_append,List.take_of_length_le (by rw[z58,k.tl];exact Nat.le_refl _)]
theorem z32c{these:Nat}{fo:List Nat}{k9:Int→AHeap→R}(hl:fo.length=64)(hs:∀x∈fo,x<18446744073709551616)(ht:these<18446744073709551616)(hk:Wp (k9 (aheadF fo these 64:Nat) h) Q):∀(m f i:Nat),m<f→i+m=64→Wp (zb9 (these:Int) (z1f fo) k9 f (aheadF fo these i:Nat) (i:Int) h) Q
 |_,0,_,hf,_=>by omega
 |0,f+1,i,hf,hm=>by
  have:i=64:=by omega
  subst this;rw[z10a];unfold za2
  repeat(first|(with_reducible refine Wp.lett ?_)|((with_reducible refine y6 ?_ ?_;apply decide_eq_false);omega))
  exact hk
 |m+1,f+1,i,hf,hm=>by
  rw[z10a];unfold za2;have hi:i<64:=by omega
  have e1:=idx64 (h:=h) hi (z367 (w:=fo) (i:=i) (by omega));have e2:=z114 (zc1 hs i) ht;have e3:=z338 hi;have e4:=z14b (z106 (fo:=fo) (these:=these) i (by omega)) (z172 hi);have el:(i:Int)+1=((i+1:Nat):Int):=by omega
  have ih:=z32c hl hs ht hk m f (i+1) (by omega) (by omega);rw[aheadF] at ih
  ((with_reducible refine Wp.lett ?_))
  refine y7 (decide_eq_true (by omega)) ?_;refine Wp.outK e1 ?_;refine Wp.obind (z4 _ _) ?_;refine Wp.lett ?_;rw[e2]
  by_cases hz:fo.getD i 0&&&these≠0
  ·rw [if_pos hz] at ih
   repeat(first|(with_reducible refine y8 (fun _ _=>?_))|((with_reducible refine ye ?_ ?_ ?_);omega;omega)|(with_reducible first|refine Wp.lett ?_|(apply Wp.obind;exact e3))|((with_reducible refine y7 ?_ ?_;apply z17b);omega)|(with_reducible refine yd (by assumption) ?_))
   rw[e4];rw[el];exact ih
  ·rw [if_neg hz] at ih
   repeat(first|(with_reducible refine y8 (fun _ _=>?_))|((with_reducible refine ye ?_ ?_ ?_);omega;omega)|(with_reducible refine Wp.lett ?_)|((with_reducible refine y6 ?_ ?_;apply z17c);omega)|(with_reducible refine yd (by assumption) ?_))
   rw[el];exact ih
theorem ahead_w{these:Nat}(hN:NtOk N)(ht:these<18446744073709551616)(hn:64<n)(kn:RowH h nb TNet (netC N)):world n (d+1) 60 [.ptr nb 0,.int .u64 (these:Int)] h=some (.ret (.int .u64 (aheadF N.fo these 64:Nat)),h):=by
 apply Wp.eq;rw[z297];unfold zdb
 have e1:z16 h 64 (.ptr nb (0+3))=some (z1f N.fo):=by
  rw[←z4a5 hN];exact kn.ld (by rw[z25a hN];decide)
 repeat(with_reducible first|refine y8 (fun _ _=>?_)|(apply Wp.obind;first|exact e1|exact z10 _ _|exact z8 _ _ _))
 rename_i k9 ek9;refine z32c hN.fl hN.fs ht ?_ 64 n 0 (by omega) rfl;rw[ek9];exact Wp.ret ⟨rfl,rfl⟩
theorem z43f{k5:Int→AHeap→R}(hT:HasTz h)(hN:NtOk N)(kn:RowH h nb TNet (netC N)):∀(f F m acc:Nat),m<f→m<F→m<18446744073709551616→acc<18446744073709551616→Wp (k5 (behF N.fo F m acc:Nat) h) Q→Wp (za1 (world n (d+1)) (.ptr nb 0) k5 f (m:Int) (acc:Int) h) Q
 |0,_,_,_,hf,_,_,_,_=>by omega
 |_,0,_,_,_,hf,_,_,_=>by omega
 |f+1,F+1,m,acc,hf,hF,hm,ha,hk=>by
  rw[z14e];unfold zc7;rw[behF] at hk
  by_cases h0:m=0
  ·rw [if_pos h0] at hk
   repeat(first|(with_reducible refine Wp.lett ?_)|((with_reducible refine y6 ?_ ?_;apply z17c);omega))
   exact hk
  ·rw [if_neg h0] at hk
   have e0:=tz_w (n:=n) (d:=d) hT hm h0;have e1:=z15f (b:=nb) (o:=0+3) (z47f m);have e2:z7 h (.ptr nb (0+3+tzN m))=some (.int .u64 (N.fo.getD (tzN m) 0:Int)):=y5 kn (by rw[Nat.zero_add,net_fo hN (z47f m)]);have e3:=z14b ha (zc1 hN.fs (tzN m))
   have e4:IntKind.u64.wrap ((m:Int) - 1)=((m - 1:Nat):Int):=by
    rw[z80];omega
   have e5:=z114 hm (y:=m - 1) (by omega);have hl:=low_lt h0
   ((with_reducible refine Wp.lett ?_))
   refine y7 (z17b (by omega)) ?_
   repeat(first|((with_reducible refine y5f ?_ ?_ ?_);omega;omega)|(with_reducible first|refine Wp.lett ?_|(apply Wp.obind;first|exact e1|exact e2|exact z4 _ _|exact z10 _ _|exact z8 _ _ _)|(apply Wp.callN;exact e0)))
   rw[e3,show ((m:Int) - 1)=((m - 1:Nat):Int) by omega,e5];refine z43f hT hN kn f F (m&&&(m - 1)) _ (by omega) (by omega) (by omega) (zc6 ha (zc1 hN.fs _)) hk
theorem beh_w{m:Nat}(hT:HasTz h)(hN:NtOk N)(kn:RowH h nb TNet (netC N))(hm:m<18446744073709551616)(hn:18446744073709551616<n):world n (d+2) 62 [.ptr nb 0,.int .u64 (m:Int)] h=some (.ret (.int .u64 (N.behind m:Nat)),h):=by
 apply Wp.eq;rw[z27d];unfold zbe
 ((with_reducible refine y8 (fun _ _=>?_)))
 rename_i k5 ek5;refine z43f hT hN kn n 18446744073709551620 m 0 (by omega) (by omega) hm (by decide) ?_;rw[ek5];exact Wp.ret ⟨rfl,rfl⟩
end
section
variable {N:Nt}{n d nb:Nat}{h:AHeap}{Q:ARes→AHeap→Prop}
theorem z376{ta:List Nat}{k8:Int→AHeap→R}(hl:ta.length=256)(hs:∀x∈ta,x<18446744073709551616)(hk:Wp (k8 (orF ta 256:Nat) h) Q):∀(m f i:Nat),m<f→i+m=256→Wp (zcd (z1f ta) k8 f (orF ta i:Nat) (i:Int) h) Q
 |_,0,_,hf,_=>by omega
 |0,f+1,i,hf,hm=>by
  have:i=256:=by omega
  subst this;rw[z11b];unfold zb7
  repeat(first|(with_reducible refine Wp.lett ?_)|((with_reducible refine y6 ?_ ?_;apply decide_eq_false);omega))
  exact hk
 |m+1,f+1,i,hf,hm=>by
  rw[z11b];unfold zb7;have hi:i<256:=by omega
  have e1:=idx256 (h:=h) hi (z367 (w:=ta) (i:=i) (by omega));have e4:=z14b (z2ab hs i) (zc1 hs i);have el:(i:Int)+1=((i+1:Nat):Int):=by omega
  have ih:=z376 hl hs hk m f (i+1) (by omega) (by omega);rw[orF] at ih
  ((with_reducible refine Wp.lett ?_))
  refine y7 (decide_eq_true (by omega)) ?_;refine Wp.outK e1 ?_;refine Wp.obind (z4 _ _) ?_;refine Wp.lett ?_;rw[e4]
  repeat(((with_reducible refine ye ?_ ?_ ?_);omega;omega))
  rw[el];exact ih
theorem z396{sm:Nat}{k19:Int→AHeap→R}(hN:NtOk N)(hs:sm<18446744073709551616)(hn:64<n)(kn:RowH h nb TNet (netC N)):∀(f F live more:Nat),(if more=0 then 0 else 18446744073709551616 - live)<f→(if more=0 then 0 else 18446744073709551616 - live)<F→live<18446744073709551616→more<18446744073709551616→Wp (k19 (z3e2 N.fo sm F live more:Nat) h) Q→Wp (zce (world n (d+1)) (.ptr nb 0) (sm:Int) k19 f (live:Int) (more:Int) h) Q
 |0,_,_,_,hf,_,_,_,_=>by omega
 |_,0,_,_,_,hf,_,_,_=>by omega
 |f+1,F+1,live,more,hf,hF,hl,hm,hk=>by
  rw[z176];unfold zf3;rw[z3e2] at hk
  by_cases h0:more=0
  ·rw [if_pos h0] at hk
   repeat(first|(with_reducible refine Wp.lett ?_)|((with_reducible refine y6 ?_ ?_;apply z17c);omega))
   exact hk
  ·rw [if_neg h0] at hk hf hF
   have e0:=ahead_w (d:=d) hN hl hn kn;have e1:=z114 (z106 (fo:=N.fo) (these:=live) 64 (Nat.le_refl _)) hs;have e2:z362 .u64 ((aheadF N.fo live 64&&&sm:Nat):Int) (live:Int)=((z2e7 N.fo sm live:Nat):Int):=z402 (zd5 (z106 64 (Nat.le_refl _))) hl;have e3:=z14b hl (z188 N.fo sm live);have hup:z2e7 N.fo sm live≠0→live<live|||z2e7 N.fo sm live:=more_up;have hsm:=zc6 hl (z188 N.fo sm live)
   ((with_reducible refine Wp.lett ?_))
   refine y7 (z17b (by omega)) ?_;refine Wp.callN e0 ?_;refine Wp.obind (z4 _ _) ?_;refine Wp.lett ?_;rw[e1];refine Wp.lett ?_;rw[e2];refine Wp.lett ?_;rw[e3];refine z396 hN hs hn kn f F _ _ ?_ ?_ hsm (z188 _ _ _) hk
   ·split
    ·omega
    ·have := hup (by assumption)
     omega
   ·split
    ·omega
    ·have := hup (by assumption)
     omega
theorem z43a{live:Nat}{k33:AHeap→R}(hN:NtOk N)(hs:live<18446744073709551616):∀(m f i:Nat) (H:AHeap),m<f→i+m=256→RowH H nb TNet (netC {N with ta:=upd (cutG live) i N.ta})→
  (∀H',RowH H' nb TNet (netC {N with ta:=z3df (cutG live) 0 N.ta})→Tch [nb] H H'→Wp (k33 H') Q)→Wp (zcf (.ptr nb 0) (live:Int) k33 f (i:Int) H) Q
 |_,0,_,_,hf,_,_,_=>by omega
 |0,f+1,i,H,hf,hm,kn,hk=>by
  rw[z11c];unfold zb8
  repeat(first|(with_reducible refine Wp.lett ?_)|((with_reducible refine y6 ?_ ?_;apply decide_eq_false);omega))
  refine hk H ?_ (Tch.refl _ _);have:i=256:=by omega
  subst this;rw[z336 hN.tl] at kn;exact kn
 |m+1,f+1,i,H,hf,hm,kn,hk=>by
  rw[z11c];unfold zb8;have hi:i<256:=by omega
  have hN2:NtOk {N with ta:=upd (cutG live) i N.ta}:=⟨hN.fl,by show (upd _ _ _).length=_;rw[z334];exact hN.tl,hN.f,hN.l,hN.fs,z29a hN.ts fun i x hx=>zd5 hx⟩;have el:(i:Int)+1=((i+1:Nat):Int):=by omega
  have e3:=z15f (b:=nb) (o:=0+67) hi;have c2:z7 H (.ptr nb (0+67+i))=some (.int .u64 (N.ta.getD i 0:Int)):=y5 kn (by rw[Nat.zero_add,z4a4 hN2 hi];show some (AV.int .u64 (((upd _ _ _).getD i 0:Nat):Int))=_;rw[z335]);have e4:=z114 (zc1 hN.ts i) hs
  repeat(first|(with_reducible first|refine Wp.lett ?_|(apply Wp.obind;first|exact e3|exact c2|exact z4 _ _|exact z10 _ _|exact z8 _ _ _))|((with_reducible refine y7 ?_ ?_;apply decide_eq_true);omega))
  rw[e4];refine Wp.st1 kn (by rw[z25a hN2];omega) rfl fun h' k' t' _=>?_;rw[Nat.zero_add,z30b hN2 hi] at k'
  repeat(((with_reducible refine ye ?_ ?_ ?_);omega;omega))
  rw[el];refine z43a hN hs m f (i+1) h' (by omega) (by omega) ?_ fun H' k2 t2=>hk H' k2 (t'.trans t2);have hu:=z3c5 (g:=cutG live) (k:=i) (l:=N.ta) (by rw[hN.tl];exact hi);rw[←hu];exact k'
theorem trim_r(hN:NtOk N)(hn:18446744073709551620<n)(kn:RowH h nb TNet (netC N)):∃h',world n (d+2) 38 [.ptr nb 0] h=some (.ret (.tup []),h')∧RowH h' nb TNet (netC N.trim)∧Tch [nb] h h':=by
 apply Wp.ex;rw[z2e4];unfold z103
 have e1:z16 h 256 (.ptr nb (0+67))=some (z1f N.ta):=by
  rw[←z455 hN];exact kn.ld (by rw[z25a hN];decide)
 repeat(with_reducible first|refine y8 (fun _ _=>?_)|(apply Wp.obind;first|exact e1|exact z10 _ _|exact z8 _ _ _))
 rename_i k8 ek8;refine z376 hN.tl hN.ts ?_ 256 n 0 (by omega) rfl;rw[ek8];have hsm:=z2ab hN.ts 256;have c1:z7 h (.ptr nb (0+2))=some (.int .u64 (N.last:Int)):=y5 kn rfl;have e2:=z114 hN.l hsm;have hl:=zd5 (b:=orF N.ta 256) hN.l
 repeat(with_reducible first|refine y8 (fun _ _=>?_)|refine Wp.lett ?_|(apply Wp.obind;first|exact c1|exact z4 _ _|exact z10 _ _|exact z8 _ _ _))
 rename_i k19 ek19;rw[e2];refine z396 hN hsm (by omega) kn n 18446744073709551620 _ _ (by split<;>omega) (by split<;>omega) hl hl ?_;rw[ek19];have hL:=y57 hN;have c2:z7 h (.ptr nb (0+1))=some (.int .u64 (N.first:Int)):=y5 kn rfl;have e3:=z114 hN.f hL;have eL:z3e2 N.fo (orF N.ta 256) 18446744073709551620 (N.last&&&orF N.ta 256) (N.last&&&orF N.ta 256)=N.live:=rfl;rw[eL]
 repeat(with_reducible first|refine Wp.lett ?_|(apply Wp.obind;first|exact c2|exact z4 _ _|exact z10 _ _|exact z8 _ _ _))
 rw[e3];refine Wp.st1 kn (by rw[z25a hN];omega) rfl fun h' k' t' _=>?_
 repeat((with_reducible refine yf (fun _ _=>?_)))
 rename_i k33 ek33;refine z43a (N:={N with first:=N.first&&&N.live}) ⟨hN.fl,hN.tl,zd5 hN.f,hN.l,hN.fs,hN.ts⟩ hL 256 n 0 h' (by omega) rfl ?_ fun H' k2 t2=>?_
 ·rw [z333]
  exact k'
 ·rw [ek33]
  exact Wp.ret ⟨rfl,k2,t'.trans t2⟩
end
open Go.RowKit Abs
mutual
def Nd.sz:Nd→Nat
 | .mk _ _ ks=>szL ks+1
def szL:List Nd→Nat
 |[]=>0
 |k::ks=>Nd.sz k+szL ks+1
end
theorem z3c8:∀ks:List Nd,ks.length≤szL ks
 |[]=>Nat.zero_le _
 |k::ks=>by
  have:=z3c8 ks;rw[List.length_cons,szL];omega
def RowsAt(h:AHeap)(T:List zd7):Prop:=∀y∈T,RowH h y.1 y.2.1 y.2.2∧y.1<h.next
theorem RowsAt.keep{h h':AHeap}{T:List zd7}(k:RowsAt h T)(t:Tch [] h h'):RowsAt h' T:=fun y hy=>⟨(k y hy).1.tch t (k y hy).2 (by simp),Nat.lt_of_lt_of_le (k y hy).2 t.1⟩
theorem RowsAt.left{h:AHeap}{T T':List zd7}(k:RowsAt h (T++T')):RowsAt h T:=fun y hy=>k y (List.mem_append_left _ hy)
theorem RowsAt.right{h:AHeap}{T T':List zd7}(k:RowsAt h (T++T')):RowsAt h T':=fun y hy=>k y (List.mem_append_right _ hy)
theorem z1d1{h:AHeap}{kc:List (List AV)}{kv:AV}{T:List zd7}(g:GrowT z22 6 kc kv T)(k:RowsAt h T):Slc h.next h 6 kv kc:=by
 refine Sli.slc (e:=z22) (lo:=0) ⟨fun r hr=>g.1 r hr,?_⟩
 rcases g.2 with⟨h1,h2,_⟩|⟨h1,c,h2,rfl⟩
 ·exact .inl ⟨h1,h2⟩
 ·obtain ⟨k1, k2⟩ := k (c, z22, kc.flatten) (by simp)
  exact .inr ⟨c,h1,h2,Nat.zero_le _,k2,k1⟩
theorem Slc.keep{h h':AHeap}{v:AV}{kc:List (List AV)}{T:List zd7}(g:GrowT z22 6 kc v T)(k:RowsAt h T)(t:Tch [] h h'):Slc h'.next h' 6 v kc:=z1d1 g (k.keep t)
def noPc:Pc:=⟨true,0,0⟩
def altP(p q:Pc):Pc:=⟨p.empty||q.empty,p.first|||q.first,p.last|||q.last⟩
mutual
def z4b:Nd→Nt→Nat→Pc×Nt×Nat
 | .mk op w ks,N,u=>
  if op=2 then (⟨false,bitN u,bitN u⟩,N.place w (bitN u),u+1)
  else if op=3 then catN ks noPc N u
  else if op=4 then altN ks ⟨false,0,0⟩ N u
  else if op=5∨op=6 then (⟨(z232 ks N u).1.empty||decide (op=5),(z232 ks N u).1.first,(z232 ks N u).1.last⟩,(z232 ks N u).2.1.follow (z232 ks N u).1.last (z232 ks N u).1.first,(z232 ks N u).2.2)
  else if op=7 then (⟨true,(z232 ks N u).1.first,(z232 ks N u).1.last⟩,(z232 ks N u).2.1,(z232 ks N u).2.2)
  else (noPc,N,u)
def catN:List Nd→Pc→Nt→Nat→Pc×Nt×Nat
 |[],p,N,u=>(p,N,u)
 |k::ks,p,N,u=>catN ks (behN p (z4b k N u).1) ((z4b k N u).2.1.follow p.last (z4b k N u).1.first) (z4b k N u).2.2
def altN:List Nd→Pc→Nt→Nat→Pc×Nt×Nat
 |[],p,N,u=>(p,N,u)
 |k::ks,p,N,u=>altN ks (altP p (z4b k N u).1) (z4b k N u).2.1 (z4b k N u).2.2
def z232:List Nd→Nt→Nat→Pc×Nt×Nat
 |[],N,u=>(noPc,N,u)
 |k::_,N,u=>z4b k N u
end
structure ROk (x:Pc×Nt×Nat) (b:Nat):Prop where
 p:PcOk x.1
 n:NtOk x.2.1
 u:x.2.2≤b
theorem altP_ok{p q:Pc}(a:PcOk p)(b:PcOk q):PcOk (altP p q):=⟨zc6 a.f b.f,zc6 a.l b.l⟩
theorem z346:PcOk noPc:=⟨by decide,by decide⟩
mutual
theorem z109:∀(t:Nd) {N:Nt} {u:Nat},NtOk N→ROk (z4b t N u) (u+t.sz)
 | .mk op w ks,N,u,k=>by
  rw[z4b,Nd.sz]
  split
  ·exact⟨⟨z1d7 u,z1d7 u⟩,k.place (z1d7 u),by show u+1≤_;omega⟩
  split
  ·have := catN_ok ks (u := u) z346 k
   exact⟨this.p,this.n,Nat.le_trans this.u (by omega)⟩
  split
  ·have := altN_ok ks (p := ⟨false, 0, 0⟩) (u := u) ⟨by decide, by decide⟩ k
   exact⟨this.p,this.n,Nat.le_trans this.u (by omega)⟩
  have hh:=headN_ok ks (u:=u) k
  split
  ·exact⟨⟨hh.p.f,hh.p.l⟩,hh.n.follow hh.p.f,Nat.le_trans hh.u (by omega)⟩
  split
  ·exact⟨⟨hh.p.f,hh.p.l⟩,hh.n,Nat.le_trans hh.u (by omega)⟩
  ·exact⟨z346,k,by show u≤_;omega⟩
theorem catN_ok:∀(ks:List Nd) {p:Pc} {N:Nt} {u:Nat},PcOk p→NtOk N→ROk (catN ks p N u) (u+szL ks)
 |[],p,N,u,hp,hN=>⟨hp,hN,by show u≤_;omega⟩
 |k::ks,p,N,u,hp,hN=>by
  have h1:=z109 k (u:=u) hN;have h2:=catN_ok ks (u:=(z4b k N u).2.2) (behN_ok hp h1.p) (h1.n.follow (those:=p.last) h1.p.f);rw[catN,szL];exact⟨h2.p,h2.n,Nat.le_trans h2.u (by have:=h1.u;omega)⟩
theorem altN_ok:∀(ks:List Nd) {p:Pc} {N:Nt} {u:Nat},PcOk p→NtOk N→ROk (altN ks p N u) (u+szL ks)
 |[],p,N,u,hp,hN=>⟨hp,hN,by show u≤_;omega⟩
 |k::ks,p,N,u,hp,hN=>by
  have h1:=z109 k (u:=u) hN;have h2:=altN_ok ks (u:=(z4b k N u).2.2) (altP_ok hp h1.p) h1.n;rw[altN,szL];exact⟨h2.p,h2.n,Nat.le_trans h2.u (by have:=h1.u;omega)⟩
theorem headN_ok:∀(ks:List Nd) {N:Nt} {u:Nat},NtOk N→ROk (z232 ks N u) (u+szL ks)
 |[],N,u,hN=>⟨z346,hN,by show u≤_;omega⟩
 |k::ks,N,u,hN=>by
  have h1:=z109 k (u:=u) hN;rw[z232,szL];exact⟨h1.p,h1.n,Nat.le_trans h1.u (by omega)⟩
end
mutual
def z3bf:Nd→Prop
 | .mk op _ ks=>((3≤op→ks≠[])∧(5≤op→ks.length=1))∧oneL ks
def oneL:List Nd→Prop
 |[]=>True
 |k::ks=>z3bf k∧oneL ks
end
theorem y34{S:List Nat}{h0 h h':AHeap}{xs ys:List zd7}{b c:Nat}{e f:TypeId}{l l' m m':List AV}(M:Mem S h0 h (xs++(b,e,l)::(c,f,m)::ys))(ht:Tch [b,c] h h')(k1:RowH h' b e l')(k2:RowH h' c f m'):Mem S h0 h' (xs++(b,e,l')::(c,f,m')::ys):=by
 have hap:=M.apart;have hle:=ht.1;simp only[List.map_append,List.map_cons] at hap
 have hne:∀x∈xs++ys,x.1≠b∧x.1≠c:=by
  intro x hx;rw[List.nodup_append] at hap;obtain⟨_,h2,h3⟩:=hap;rw[List.nodup_cons,List.nodup_cons] at h2
  rcases List.mem_append.1 hx with hx|hx
  ·exact⟨h3 x.1 (List.mem_map_of_mem hx) b (by simp),h3 x.1 (List.mem_map_of_mem hx) c (by simp)⟩
  ·exact⟨fun hxb=>h2.1 (by rw[←hxb];exact List.mem_cons_of_mem _ (List.mem_map_of_mem hx)),fun hxb=>h2.2.1 (by rw[←hxb];exact List.mem_map_of_mem hx)⟩
 have rb:=M.row (b,e,l) (by simp);have rc:=M.row (c,f,m) (by simp);refine⟨fun x hx=>?_,by simpa only[List.map_append,List.map_cons] using hap,M.tch.trans' ht fun i hi=>?_⟩
 ·have hx' : x ∈ xs ++ ys ∨ x = (b, e, l') ∨ x = (c, f, m') := by
   rcases List.mem_append.1 hx with hx|hx
   ·exact .inl (List.mem_append_left _ hx)
   ·rcases List.mem_cons.1 hx with hx | hx
    ·exact .inr (.inl hx)
    ·rcases List.mem_cons.1 hx with hx | hx
     ·exact .inr (.inr hx)
     ·exact .inl (List.mem_append_right _ hx)
  rcases hx' with hx'|rfl|rfl
  ·obtain ⟨h1, h2, h3⟩ := M.row x (by
    rcases List.mem_append.1 hx' with hx|hx
    ·exact List.mem_append_left _ hx
    ·exact List.mem_append_right _ (List.mem_cons_of_mem _ (List.mem_cons_of_mem _ hx)))
   exact⟨h1.tch ht h2 (by simpa using hne x hx'),by omega,h3⟩
  ·exact⟨k1,Nat.lt_of_lt_of_le rb.2.1 hle,rb.2.2⟩
  ·exact⟨k2,Nat.lt_of_lt_of_le rc.2.1 hle,rc.2.2⟩
 ·simp only [List.mem_cons, List.not_mem_nil, or_false] at hi
  rcases hi with rfl|rfl
  ·exact rb.2.2
  ·exact rc.2.2
theorem RowsAt.keepS{h h':AHeap}{T:List zd7}{S:List Nat}(k:RowsAt h T)(t:Tch S h h')(hS:∀y∈T,y.1 ∉ S):RowsAt h' T:=fun y hy=>⟨(k y hy).1.tch t (k y hy).2 (hS y hy),Nat.lt_of_lt_of_le (k y hy).2 t.1⟩
def PieceW(n D b nb:Nat)(h0:AHeap)(c:List AV)(t:Nd):Prop:=∀(N:Nt) (u:Nat) (h:AHeap),NtOk N→u+t.sz<1000000→Tch [b,nb] h0 h→RowH h b TBl [.ptr nb 0,.int .i64 (u:Int)]→RowH h nb TNet (netC N)→
 ∃h',world n D 37 [.ptr b 0,.agg c] h=some (.ret (.agg (pcC (z4b t N u).1)),h')∧RowH h' b TBl [.ptr nb 0,.int .i64 ((z4b t N u).2.2:Nat)]∧RowH h' nb TNet (netC (z4b t N u).2.1)∧Tch [b,nb] h h'
inductive KidP (n D b nb:Nat) (h0:AHeap):List (List AV)→List Nd→Prop
 |nil:KidP n D b nb h0 [] []
 |cons {c:List AV} {t:Nd} {l:List (List AV)} {ks:List Nd} (e:PieceW n D b nb h0 c t) (k:KidP n D b nb h0 l ks):KidP n D b nb h0 (c::l) (t::ks)
theorem PieceW.keep{n D b nb:Nat}{h0 h1:AHeap}{c:List AV}{t:Nd}(k:PieceW n D b nb h0 c t)(th:Tch [b,nb] h0 h1):PieceW n D b nb h1 c t:=fun N u h a1 a2 a3 a4 a5=>k N u h a1 a2 (th.trans a3) a4 a5
theorem KidP.keep{n D b nb:Nat}{h0 h1:AHeap}{l:List (List AV)}{ks:List Nd}(k:KidP n D b nb h0 l ks)(th:Tch [b,nb] h0 h1):KidP n D b nb h1 l ks:=by
 induction k with
 |nil=>exact .nil
 |cons e _ ih=>exact .cons (e.keep th) ih
theorem z17a{α:Type}{K m:List α}{c:α}{i:Nat}(d:K.drop i=c::m):∃hi:i<K.length,K[i]=c∧K.drop (i+1)=m:=by
 have hi:i<K.length:=by
  have:=congrArg List.length d;rw[List.length_drop,List.length_cons] at this;omega
 have g:=List.drop_eq_getElem_cons hi;rw[d] at g;simp only[List.cons.injEq] at g;exact⟨hi,g.1.symm,g.2.symm⟩
theorem drop_nil{α:Type}{K:List α}{i:Nat}(d:K.drop i=[]):K.length≤i:=by
 have:=congrArg List.length d;rw[List.length_drop,List.length_nil] at this;omega
section
variable {h:AHeap}{n d b nb:Nat}{kv:AV}{K:List (List AV)}{T ys:List zd7}{Q:ARes→AHeap→Prop}
theorem z43b{k36:AHeap→R}{h4:AHeap}(g:GrowT z22 6 K kv T)(r:RowsAt h T)(hT:∀y∈T,y.1 ∉ [b,nb])(hK:∀c∈K,c.length=6∧c.all AV.one=true)(hn:64<n)(hKn:K.length<1000000)(hne:b≠nb):∀(l:List (List AV)) (ks:List Nd) (i f:Nat) (H:AHeap) (p:Pc) (N:Nt) (u:Nat),KidP n (d+2) b nb h l ks→K.drop i=l→K.length - i<f→NtOk N→PcOk p→u+szL ks<1000000→
  Mem [b,nb] h H ((h4.next,TPc,pcC p)::(b,TBl,[.ptr nb 0,.int .i64 (u:Int)])::(nb,TNet,netC N)::ys)→
  (∀H',Mem [b,nb] h H' ((h4.next,TPc,pcC (catN ks p N u).1)::(b,TBl,[.ptr nb 0,.int .i64 ((catN ks p N u).2.2:Nat)])::(nb,TNet,netC (catN ks p N u).2.1)::ys)→Wp (k36 H') Q)→Wp (z77 (world n (d+2)) (.ptr b 0) h4 kv (K.length:Int) k36 f (i:Int) H) Q
 |_,_,_,0,_,_,_,_,_,_,hf,_,_,_,_,_=>by omega
 |l,ks,i,f+1,H,p,N,u,kk,d1,hf,hN,hp,hu,Mx,hk=>by
  rw[z11a];unfold z96
  cases kk with
  |nil=>
   have:=drop_nil d1
   repeat(first|(with_reducible refine Wp.lett ?_)|((with_reducible refine y6 ?_ ?_;apply decide_eq_false);omega))
   exact hk H Mx
  |cons e k=>
   rename_i c t m ks;rw[szL] at hu;obtain⟨hi1,hc,d2⟩:=z17a d1;have rH:=r.keepS Mx.tch hT;obtain⟨p1,_,x1,y1⟩:=(z1d1 g rH).row hi1;obtain⟨l6,o6⟩:=hK _ (List.getElem_mem hi1);rw[hc] at y1 l6 o6;have hr:=z109 t (u:=u) hN;rw[catN] at hk
   repeat(first|((with_reducible apply y9 Mx);clear Mx;intro _ Mx)|(with_reducible first|refine Wp.lett ?_|(apply Wp.obind;first|exact x1|exact y1))|((with_reducible refine y7 ?_ ?_;apply decide_eq_true);omega)|rw[ze])
   refine y10 Mx l6 rfl o6 fun h2 M2=>?_;clear Mx;have Mx:=M2;clear M2;refine y1f Mx rfl ?_;refine y15 Mx l6 ?_;obtain⟨h3,e3,kb3,kn3,t3⟩:=e N u h2 hN (by omega) Mx.tch Mx.at2.1 Mx.at3.1;refine Wp.callN e3 ?_;clear e3;have M3:=y34 (xs:=[_,_]) Mx t3 kb3 kn3;clear Mx;have Mx:=M3;clear M3;simp only[List.cons_append,List.nil_append] at Mx
   repeat(first|((with_reducible refine Wp.chk ?_ ?_);focus ((repeat' (first|(with_reducible exact rfl)|(with_reducible apply z267)|((with_reducible apply Mem.rr1 Mx);kernel_rfl;kernel_rfl)));done))|(with_reducible apply Wp.obind;exact z11 _))
   obtain⟨h5,e5,kb5,kn5,t5⟩:=behind_r (d:=d) (v:=.int .i64 ((z4b t N u).2.2:Nat)) hr.n hp hr.p hn hne Mx.at2.1 Mx.at2.2.1 Mx.at3.1 Mx.at3.2.1;refine Wp.callN e5 ?_;clear e5;have M5:=y34 (xs:=[_,_]) Mx t5 kb5 kn5;clear Mx;have Mx:=M5;clear M5;simp only[List.cons_append,List.nil_append] at Mx
   (((with_reducible apply Wp.obind);(with_reducible exact z11 _)))
   refine y24 Mx rfl rfl rfl fun h6 M6=>?_
   repeat(((with_reducible refine ye ?_ ?_ ?_);omega;omega))
   rw[show (i:Int)+1=((i+1:Nat):Int) by omega];have:=hr.u;exact z43b g r hT hK hn hKn hne m ks (i+1) f h6 _ _ _ k d2 (by omega) (hr.n.follow hr.p.f) (behN_ok hp hr.p) (by omega) M6.pop hk
theorem z32b{k83:AHeap→R}{h4:AHeap}(g:GrowT z22 6 K kv T)(r:RowsAt h T)(hT:∀y∈T,y.1 ∉ [b,nb])(hK:∀c∈K,c.length=6∧c.all AV.one=true)(hKn:K.length<1000000):∀(l:List (List AV)) (ks:List Nd) (i f:Nat) (H:AHeap) (p:Pc) (N:Nt) (u:Nat),KidP n d b nb h l ks→K.drop i=l→K.length - i<f→NtOk N→PcOk p→u+szL ks<1000000→
  Mem [b,nb] h H ((h4.next,TPc,pcC p)::(b,TBl,[.ptr nb 0,.int .i64 (u:Int)])::(nb,TNet,netC N)::ys)→
  (∀H',Mem [b,nb] h H' ((h4.next,TPc,pcC (altN ks p N u).1)::(b,TBl,[.ptr nb 0,.int .i64 ((altN ks p N u).2.2:Nat)])::(nb,TNet,netC (altN ks p N u).2.1)::ys)→Wp (k83 H') Q)→Wp (z76 (world n d) (.ptr b 0) h4 kv (K.length:Int) k83 f (i:Int) H) Q
 |_,_,_,0,_,_,_,_,_,_,hf,_,_,_,_,_=>by omega
 |l,ks,i,f+1,H,p,N,u,kk,d1,hf,hN,hp,hu,Mx,hk=>by
  rw[z119];unfold z95
  cases kk with
  |nil=>
   have:=drop_nil d1
   repeat(first|(with_reducible refine Wp.lett ?_)|((with_reducible refine y6 ?_ ?_;apply decide_eq_false);omega))
   exact hk H Mx
  |cons e k=>
   rename_i c t m ks;rw[szL] at hu;obtain⟨hi1,hc,d2⟩:=z17a d1;have rH:=r.keepS Mx.tch hT;obtain⟨p1,_,x1,y1⟩:=(z1d1 g rH).row hi1;obtain⟨l6,o6⟩:=hK _ (List.getElem_mem hi1);rw[hc] at y1 l6 o6;have hr:=z109 t (u:=u) hN;rw[altN] at hk
   repeat(first|((with_reducible apply y9 Mx);clear Mx;intro _ Mx)|(with_reducible first|refine Wp.lett ?_|(apply Wp.obind;first|exact x1|exact y1))|((with_reducible refine y7 ?_ ?_;apply decide_eq_true);omega)|rw[ze])
   refine y10 Mx l6 rfl o6 fun h2 M2=>?_;clear Mx;have Mx:=M2;clear M2;refine y15 Mx l6 ?_;obtain⟨h3,e3,kb3,kn3,t3⟩:=e N u h2 hN (by omega) Mx.tch Mx.at2.1 Mx.at3.1;refine Wp.callN e3 ?_;clear e3;have M3:=y34 (xs:=[_,_]) Mx t3 kb3 kn3;clear Mx;have Mx:=M3;clear M3;simp only[List.cons_append,List.nil_append] at Mx;have o1:=z14b hp.f hr.p.f;have o2:=z14b hp.l hr.p.l;have el:(i:Int)+1=((i+1:Nat):Int):=by omega
   have hu2:=hr.u;have fin:=fun h6 M6=>z32b g r hT hK hKn m ks (i+1) f h6 _ _ _ k d2 (by omega) hr.n (altP_ok hp hr.p) (by omega) M6 hk;unfold pcC at Mx
   repeat(first|(with_reducible apply Wp.obind;exact z5 _)|((with_reducible apply y10 Mx);rfl;rfl;(rfl);clear Mx;intro _ Mx)|((with_reducible apply y1b Mx);rfl)|((with_reducible apply y9 Mx);clear Mx;intro _ Mx)|(with_reducible first|refine y8 (fun _ _=>?_)|(apply Wp.obind;exact z11 _))|rw[ze])
   cases hpe:p.empty with
   |true=>
    rw[hpe] at Mx
    repeat(first|(with_reducible apply Wp.obind;exact z4 _ _)|((with_reducible apply y20 Mx);rfl)|((with_reducible apply y1b Mx);rfl)|((with_reducible apply y39 Mx);rfl;rfl;(rfl);clear Mx;intro _ Mx)|((with_reducible refine ye ?_ ?_ ?_);omega;omega)|(with_reducible first|refine Wp.lett ?_|(refine y7 ?_ ?_;rfl)|refine yd (by assumption) ?_))
    rw[o1,o2] at Mx;rw[el];refine fin _ ?_;unfold altP pcC;rw[hpe];exact Mx.pop.pop
   |false=>
    rw[hpe] at Mx
    repeat(first|(with_reducible apply Wp.obind;first|exact z4 _ _|exact z5 _)|((with_reducible apply y20 Mx);rfl)|((with_reducible apply y1b Mx);rfl)|((with_reducible apply y39 Mx);rfl;rfl;(rfl);clear Mx;intro _ Mx)|((with_reducible refine ye ?_ ?_ ?_);omega;omega)|(with_reducible first|refine Wp.lett ?_|(refine y6 ?_ ?_;rfl)|refine yd (by assumption) ?_))
    rw[o1,o2] at Mx;rw[el];refine fin _ ?_;unfold altP pcC;rw[hpe];exact Mx.pop.pop
end
theorem perm5{α:Type}(a b c d e:α):[a,d,e,b,c].Perm [a,b,c,d,e]:=List.Perm.cons a (List.perm_append_comm (l₁:=[d,e]) (l₂:=[b,c]))
def z32e(b nb:Nat)(H:AHeap)(x:Pc×Nt×Nat)(r:ARes)(h':AHeap):Prop:=r=.ret (.agg (pcC x.1))∧RowH h' b TBl [.ptr nb 0,.int .i64 (x.2.2:Nat)]∧RowH h' nb TNet (netC x.2.1)∧Tch [b,nb] H h'
section
variable {n d b nb u:Nat}{a b' c' d':Nat}{h H:AHeap}{N:Nt}{kv1:AV}{kc1:List (List AV)}{T01:List zd7}{ks:List Nd}{c1:List AV}{t1:Nd}
theorem z495(hw:WordsOk [a,b',c',d'])(hn:256<n)(hu:u<1000000)(hN:NtOk N)(hne:b≠nb)(kb:RowH H b TBl [.ptr nb 0,.int .i64 (u:Int)])(hbH:b<H.next)(kn:RowH H nb TNet (netC N))(hnH:nb<H.next)(hv:kv1.one=true):Wp (z19 (world n (d+2)) n (.ptr b 0) (z8a 2 [a,b',c',d'] kv1) H) (z32e b nb H (⟨false,bitN u,bitN u⟩,N.place [a,b',c',d'] (bitN u),u+1)):=by
 unfold z19;have Mx:=y38 kb hbH kn hnH hne;have o1:=za0 (op:=2) (w:=[a,b',c',d']) hv;refine y16 Mx o1 fun h1 M1=>?_;clear Mx;have Mx:=M1;clear M1
 repeat(first|(with_reducible apply Wp.obind;first|exact z4 _ _|exact z8 _ _ _)|((with_reducible apply y2f Mx);rfl)|((with_reducible apply y9 Mx);clear Mx;intro _ Mx)|(with_reducible refine Wp.lett ?_)|((with_reducible refine y7 ?_ ?_;apply z66);omega)|rw[ze])
 have e1:z16 _ 4 (.ptr H.next (0+1))=some (z1f [a,b',c',d']):=Mx.at1.1.ld (o:=0+1) (n:=4) (by show 5≤6;decide)
 repeat(((with_reducible apply Wp.obind);(with_reducible exact e1)))
 obtain⟨h3,e3,kb3,kn3,t3⟩:=place_r (n:=n) (d:=d+1) hN hw hn hu hne Mx.at2.1 Mx.at2.2.1 Mx.at3.1 Mx.at3.2.1;refine Wp.callN e3 ?_;clear e3 e1;have M3:=y34 (xs:=[_,_]) Mx t3 kb3 kn3;clear Mx;have Mx:=M3;clear M3;simp only[List.cons_append,List.nil_append] at Mx
 repeat(first|((with_reducible apply y15 Mx);rfl)|((with_reducible apply y10 Mx);rfl;rfl;(rfl);clear Mx;intro _ Mx)|(with_reducible apply Wp.obind;exact z11 _))
 exact Wp.ret ⟨rfl,Mx.at2.1,Mx.at3.1,Mx.tch⟩
theorem z497(g1:GrowT z22 6 kc1 kv1 T01)(rH:RowsAt H T01)(hT0:∀y∈T01,y.1 ∉ [b,nb])(hK:∀c∈kc1,c.length=6∧c.all AV.one=true)(hkl:kc1.length<1000000)(hkn:kc1.length<n)(hn:64<n)(hu:u+szL ks<1000000)(kk:KidP n (d+2) b nb H kc1 ks)(hN:NtOk N)(hne:b≠nb)(kb:RowH H b TBl [.ptr nb 0,.int .i64 (u:Int)])(hbH:b<H.next)(kn:RowH H nb TNet (netC N))(hnH:nb<H.next)(hv:kv1.one=true):Wp (z19 (world n (d+2)) n (.ptr b 0) (z8a 3 [a,b',c',d'] kv1) H) (z32e b nb H (catN ks noPc N u)):=by
 unfold z19;have Mx:=y38 kb hbH kn hnH hne;have o1:=za0 (op:=3) (w:=[a,b',c',d']) hv;refine y16 Mx o1 fun h1 M1=>?_;clear Mx;have Mx:=M1;clear M1;have len1:=g1.len
 repeat(first|(with_reducible apply Wp.obind;first|exact z4 _ _|exact z8 _ _ _)|((with_reducible apply y10 Mx);rfl;rfl;(rfl);clear Mx;intro _ Mx)|((with_reducible apply y2f Mx);rfl)|((with_reducible apply y1b Mx);rfl)|((with_reducible apply y9 Mx);clear Mx;intro _ Mx)|(with_reducible first|refine yf (fun _ _=>?_)|refine Wp.lett ?_|(apply Wp.obind;exact len1))|((with_reducible refine y7 ?_ ?_;apply z66);omega)|((with_reducible refine y6 ?_ ?_;apply z83);omega)|rw[ze])
 rename_i kx ekx;have Mp:=Mx.perm (perm5 _ _ _ _ _);refine z43b (h:=H) (ys:=[_,_]) g1 rH hT0 hK (by omega) (by omega) hne kc1 ks 0 n _ noPc N u kk List.drop_zero (by omega) hN z346 (by omega) Mp fun H' M'=>?_;clear Mx Mp;have Mx:=M';clear M';rw[ekx]
 repeat(first|((with_reducible apply y15 Mx);rfl)|((with_reducible apply y3b Mx);rfl)|((with_reducible apply y45 Mx);rfl;rfl;(rfl);clear Mx;intro _ Mx)|rw[ze])
 exact Wp.ret ⟨rfl,Mx.at1.1,Mx.at2.1,Mx.tch⟩
theorem z498(g1:GrowT z22 6 kc1 kv1 T01)(rH:RowsAt H T01)(hT0:∀y∈T01,y.1 ∉ [b,nb])(hK:∀c∈kc1,c.length=6∧c.all AV.one=true)(hkl:kc1.length<1000000)(hkn:kc1.length<n)(hu:u+szL ks<1000000)(kk:KidP n (d+2) b nb H kc1 ks)(hN:NtOk N)(hne:b≠nb)(kb:RowH H b TBl [.ptr nb 0,.int .i64 (u:Int)])(hbH:b<H.next)(kn:RowH H nb TNet (netC N))(hnH:nb<H.next)(hv:kv1.one=true):Wp (z19 (world n (d+2)) n (.ptr b 0) (z8a 4 [a,b',c',d'] kv1) H) (z32e b nb H (altN ks ⟨false,0,0⟩ N u)):=by
 unfold z19;have Mx:=y38 kb hbH kn hnH hne;have o1:=za0 (op:=4) (w:=[a,b',c',d']) hv;refine y16 Mx o1 fun h1 M1=>?_;clear Mx;have Mx:=M1;clear M1;have len1:=g1.len
 repeat(first|(with_reducible apply Wp.obind;first|exact z4 _ _|exact z8 _ _ _)|((with_reducible apply y10 Mx);rfl;rfl;(rfl);clear Mx;intro _ Mx)|((with_reducible apply y2f Mx);rfl)|((with_reducible apply y1b Mx);rfl)|((with_reducible apply y9 Mx);clear Mx;intro _ Mx)|(with_reducible first|refine yf (fun _ _=>?_)|refine Wp.lett ?_|(apply Wp.obind;exact len1))|((with_reducible refine y7 ?_ ?_;apply z66);omega)|((with_reducible refine y6 ?_ ?_;apply z83);omega)|rw[ze])
 rename_i kx ekx;have Mp:=Mx.perm (perm5 _ _ _ _ _);refine z32b (h:=H) (ys:=[_,_]) g1 rH hT0 hK (by omega) kc1 ks 0 n _ ⟨false,0,0⟩ N u kk List.drop_zero (by omega) hN ⟨by decide,by decide⟩ (by omega) Mp fun H' M'=>?_;clear Mx Mp;have Mx:=M';clear M';rw[ekx]
 repeat(first|((with_reducible apply y15 Mx);rfl)|((with_reducible apply y3b Mx);rfl)|((with_reducible apply y45 Mx);rfl;rfl;(rfl);clear Mx;intro _ Mx)|rw[ze])
 exact Wp.ret ⟨rfl,Mx.at1.1,Mx.at2.1,Mx.tch⟩
theorem z450(g1:GrowT z22 6 [c1] kv1 T01)(rH:RowsAt H T01)(hT0:∀y∈T01,y.1 ∉ [b,nb])(hn:64<n)(hu:u+t1.sz<1000000)(e:PieceW n (d+2) b nb H c1 t1)(hN:NtOk N)(hne:b≠nb)(kb:RowH H b TBl [.ptr nb 0,.int .i64 (u:Int)])(hbH:b<H.next)(kn:RowH H nb TNet (netC N))(hnH:nb<H.next)(hv:kv1.one=true):Wp (z19 (world n (d+2)) n (.ptr b 0) (z8a 5 [a,b',c',d'] kv1) H) (z32e b nb H (⟨(z4b t1 N u).1.empty||decide (5=5),(z4b t1 N u).1.first,(z4b t1 N u).1.last⟩,(z4b t1 N u).2.1.follow (z4b t1 N u).1.last (z4b t1 N u).1.first,(z4b t1 N u).2.2)):=by
 unfold z19;have Mx:=y38 kb hbH kn hnH hne;have o1:=za0 (op:=5) (w:=[a,b',c',d']) hv;refine y16 Mx o1 fun h1 M1=>?_;clear Mx;have Mx:=M1;clear M1;have hr:=z109 t1 (u:=u) hN
 repeat(first|(with_reducible apply Wp.obind;first|exact z4 _ _|exact z8 _ _ _)|((with_reducible apply y2f Mx);rfl)|((with_reducible apply y9 Mx);clear Mx;intro _ Mx)|(with_reducible first|refine y8 (fun _ _=>?_)|refine Wp.lett ?_)|((with_reducible refine y7 ?_ ?_);first|(with_reducible rfl)|((with_reducible apply z66);omega))|((with_reducible refine y6 ?_ ?_;apply z83);omega)|(with_reducible refine yd (by assumption) ?_)|rw[ze])
 obtain⟨p1,_,x1,y1⟩:=(z1d1 g1 (rH.keepS Mx.tch hT0)).row (i:=0) (by simp);have x2:z1a8 6 kv1 0=some (.ptr p1 (0*6)):=x1;have y2:z16 _ 6 (.ptr p1 (0*6))=some c1:=y1;clear x1 y1
 repeat(((with_reducible apply Wp.obind);(with_reducible first|exact x2|exact y2)))
 obtain⟨h3,e3,kb3,kn3,t3⟩:=e N u _ hN (by omega) Mx.tch Mx.at2.1 Mx.at3.1;refine Wp.callN e3 ?_;clear e3 x2 y2;have M3:=y34 (xs:=[_,_]) Mx t3 kb3 kn3;clear Mx;have Mx:=M3;clear M3;simp only[List.cons_append,List.nil_append] at Mx
 repeat(first|(with_reducible apply Wp.obind;exact z4 _ _)|((with_reducible apply y20 Mx);rfl)|((with_reducible apply y10 Mx);rfl;rfl;(rfl);clear Mx;intro _ Mx)|((with_reducible apply y9 Mx);clear Mx;intro _ Mx)|(with_reducible apply Wp.obind;exact z11 _)|rw[ze])
 obtain⟨h5,e5,kn5,t5⟩:=z350 (n:=n) (d:=d+1) hr.n hr.p.f hr.p.l (by omega) hne Mx.at3.1 Mx.at3.2.1 Mx.at4.1;refine Wp.callN e5 ?_;clear e5;have M5:=y17 (xs:=[_,_,_,_]) Mx t5 kn5;clear Mx;have Mx:=M5;clear M5;simp only[List.cons_append,List.nil_append] at Mx;cases he:(z4b t1 N u).1.empty with
 |true=>
  unfold pcC at Mx;rw[he] at Mx
  repeat(first|(with_reducible apply Wp.obind;exact z5 _)|((with_reducible apply y20 Mx);rfl)|((with_reducible apply y15 Mx);rfl)|((with_reducible apply y41 Mx);exact Nat.le_of_ble_eq_true rfl;rfl;clear Mx;intro _ Mx)|((with_reducible apply y1f Mx);rfl)|((with_reducible apply y24 Mx);rfl;rfl;(rfl);clear Mx;intro _ Mx)|(with_reducible first|refine y8 (fun _ _=>?_)|(refine y7 ?_ ?_;rfl)|refine yd (by assumption) ?_))
  exact Wp.ret ⟨by unfold pcC;rfl,Mx.at3.1,Mx.at4.1,Mx.tch⟩
 |false=>
  unfold pcC at Mx;rw[he] at Mx
  repeat(first|(with_reducible apply Wp.obind;first|exact z4 _ _|exact z5 _|exact z8 _ _ _)|((with_reducible apply y20 Mx);rfl)|((with_reducible apply y15 Mx);rfl)|((with_reducible apply y41 Mx);exact Nat.le_of_ble_eq_true rfl;rfl;clear Mx;intro _ Mx)|((with_reducible apply y1f Mx);rfl)|((with_reducible apply y24 Mx);rfl;rfl;(rfl);clear Mx;intro _ Mx)|((with_reducible apply y1b Mx);rfl)|(with_reducible first|refine y8 (fun _ _=>?_)|refine Wp.lett ?_|(refine y6 ?_ ?_;rfl)|refine yd (by assumption) ?_))
  exact Wp.ret ⟨by unfold pcC;rfl,Mx.at3.1,Mx.at4.1,Mx.tch⟩
theorem z451(g1:GrowT z22 6 [c1] kv1 T01)(rH:RowsAt H T01)(hT0:∀y∈T01,y.1 ∉ [b,nb])(hn:64<n)(hu:u+t1.sz<1000000)(e:PieceW n (d+2) b nb H c1 t1)(hN:NtOk N)(hne:b≠nb)(kb:RowH H b TBl [.ptr nb 0,.int .i64 (u:Int)])(hbH:b<H.next)(kn:RowH H nb TNet (netC N))(hnH:nb<H.next)(hv:kv1.one=true):Wp (z19 (world n (d+2)) n (.ptr b 0) (z8a 6 [a,b',c',d'] kv1) H) (z32e b nb H (⟨(z4b t1 N u).1.empty||decide (6=5),(z4b t1 N u).1.first,(z4b t1 N u).1.last⟩,(z4b t1 N u).2.1.follow (z4b t1 N u).1.last (z4b t1 N u).1.first,(z4b t1 N u).2.2)):=by
 unfold z19;have Mx:=y38 kb hbH kn hnH hne;have o1:=za0 (op:=6) (w:=[a,b',c',d']) hv;refine y16 Mx o1 fun h1 M1=>?_;clear Mx;have Mx:=M1;clear M1;have hr:=z109 t1 (u:=u) hN
 repeat(first|(with_reducible apply Wp.obind;first|exact z4 _ _|exact z8 _ _ _)|((with_reducible apply y2f Mx);rfl)|((with_reducible apply y9 Mx);clear Mx;intro _ Mx)|(with_reducible first|refine y8 (fun _ _=>?_)|refine Wp.lett ?_)|((with_reducible refine y7 ?_ ?_;apply z66);omega)|((with_reducible refine y6 ?_ ?_;apply z83);omega)|(with_reducible refine yd (by assumption) ?_)|rw[ze])
 obtain⟨p1,_,x1,y1⟩:=(z1d1 g1 (rH.keepS Mx.tch hT0)).row (i:=0) (by simp);have x2:z1a8 6 kv1 0=some (.ptr p1 (0*6)):=x1;have y2:z16 _ 6 (.ptr p1 (0*6))=some c1:=y1;clear x1 y1
 repeat(((with_reducible apply Wp.obind);(with_reducible first|exact x2|exact y2)))
 obtain⟨h3,e3,kb3,kn3,t3⟩:=e N u _ hN (by omega) Mx.tch Mx.at2.1 Mx.at3.1;refine Wp.callN e3 ?_;clear e3 x2 y2;have M3:=y34 (xs:=[_,_]) Mx t3 kb3 kn3;clear Mx;have Mx:=M3;clear M3;simp only[List.cons_append,List.nil_append] at Mx
 repeat(first|(with_reducible apply Wp.obind;exact z4 _ _)|((with_reducible apply y20 Mx);rfl)|((with_reducible apply y10 Mx);rfl;rfl;(rfl);clear Mx;intro _ Mx)|((with_reducible apply y9 Mx);clear Mx;intro _ Mx)|(with_reducible apply Wp.obind;exact z11 _)|rw[ze])
 obtain⟨h5,e5,kn5,t5⟩:=z350 (n:=n) (d:=d+1) hr.n hr.p.f hr.p.l (by omega) hne Mx.at3.1 Mx.at3.2.1 Mx.at4.1;refine Wp.callN e5 ?_;clear e5;have M5:=y17 (xs:=[_,_,_,_]) Mx t5 kn5;clear Mx;have Mx:=M5;clear M5;simp only[List.cons_append,List.nil_append] at Mx;cases he:(z4b t1 N u).1.empty with
 |true=>
  unfold pcC at Mx;rw[he] at Mx
  repeat(first|(with_reducible apply Wp.obind;exact z5 _)|((with_reducible apply y20 Mx);rfl)|((with_reducible apply y15 Mx);rfl)|((with_reducible apply y41 Mx);exact Nat.le_of_ble_eq_true rfl;rfl;clear Mx;intro _ Mx)|((with_reducible apply y1f Mx);rfl)|((with_reducible apply y24 Mx);rfl;rfl;(rfl);clear Mx;intro _ Mx)|(with_reducible first|refine y8 (fun _ _=>?_)|(refine y7 ?_ ?_;rfl)|refine yd (by assumption) ?_))
  exact Wp.ret ⟨by unfold pcC;rfl,Mx.at3.1,Mx.at4.1,Mx.tch⟩
 |false=>
  unfold pcC at Mx;rw[he] at Mx
  repeat(first|(with_reducible apply Wp.obind;first|exact z4 _ _|exact z5 _|exact z8 _ _ _)|((with_reducible apply y20 Mx);rfl)|((with_reducible apply y15 Mx);rfl)|((with_reducible apply y41 Mx);exact Nat.le_of_ble_eq_true rfl;rfl;clear Mx;intro _ Mx)|((with_reducible apply y1f Mx);rfl)|((with_reducible apply y24 Mx);rfl;rfl;(rfl);clear Mx;intro _ Mx)|((with_reducible apply y1b Mx);rfl)|(with_reducible first|refine y8 (fun _ _=>?_)|refine Wp.lett ?_|(refine y6 ?_ ?_;rfl)|refine yd (by assumption) ?_))
  exact Wp.ret ⟨by unfold pcC;rfl,Mx.at3.1,Mx.at4.1,Mx.tch⟩
theorem z496(g1:GrowT z22 6 [c1] kv1 T01)(rH:RowsAt H T01)(hT0:∀y∈T01,y.1 ∉ [b,nb])(hu:u+t1.sz<1000000)(e:PieceW n (d+2) b nb H c1 t1)(hN:NtOk N)(hne:b≠nb)(kb:RowH H b TBl [.ptr nb 0,.int .i64 (u:Int)])(hbH:b<H.next)(kn:RowH H nb TNet (netC N))(hnH:nb<H.next)(hv:kv1.one=true):Wp (z19 (world n (d+2)) n (.ptr b 0) (z8a 7 [a,b',c',d'] kv1) H) (z32e b nb H (⟨true,(z4b t1 N u).1.first,(z4b t1 N u).1.last⟩,(z4b t1 N u).2.1,(z4b t1 N u).2.2)):=by
 unfold z19;have Mx:=y38 kb hbH kn hnH hne;have o1:=za0 (op:=7) (w:=[a,b',c',d']) hv;refine y16 Mx o1 fun h1 M1=>?_;clear Mx;have Mx:=M1;clear M1;have hr:=z109 t1 (u:=u) hN
 repeat(first|(with_reducible apply Wp.obind;first|exact z4 _ _|exact z8 _ _ _)|((with_reducible apply y2f Mx);rfl)|((with_reducible apply y9 Mx);clear Mx;intro _ Mx)|(with_reducible first|refine y8 (fun _ _=>?_)|refine Wp.lett ?_)|((with_reducible refine y7 ?_ ?_;apply z66);omega)|((with_reducible refine y6 ?_ ?_;apply z83);omega)|(with_reducible refine yd (by assumption) ?_)|rw[ze])
 obtain⟨p1,_,x1,y1⟩:=(z1d1 g1 (rH.keepS Mx.tch hT0)).row (i:=0) (by simp);have x2:z1a8 6 kv1 0=some (.ptr p1 (0*6)):=x1;have y2:z16 _ 6 (.ptr p1 (0*6))=some c1:=y1;clear x1 y1
 repeat(((with_reducible apply Wp.obind);(with_reducible first|exact x2|exact y2)))
 obtain⟨h3,e3,kb3,kn3,t3⟩:=e N u _ hN (by omega) Mx.tch Mx.at2.1 Mx.at3.1;refine Wp.callN e3 ?_;clear e3 x2 y2;have M3:=y34 (xs:=[_,_]) Mx t3 kb3 kn3;clear Mx;have Mx:=M3;clear M3;simp only[List.cons_append,List.nil_append] at Mx
 repeat(first|((with_reducible apply y15 Mx);rfl)|((with_reducible apply y41 Mx);exact Nat.le_of_ble_eq_true rfl;rfl;clear Mx;intro _ Mx)|((with_reducible apply y10 Mx);rfl;rfl;(rfl);clear Mx;intro _ Mx)|((with_reducible apply y1f Mx);rfl)|((with_reducible apply y24 Mx);rfl;rfl;(rfl);clear Mx;intro _ Mx)|((with_reducible apply y9 Mx);clear Mx;intro _ Mx)|(with_reducible apply Wp.obind;exact z11 _)|rw[ze])
 exact Wp.ret ⟨rfl,Mx.at3.1,Mx.at4.1,Mx.tch⟩
end
mutual
theorem z418:∀(t:Nd) {c:List AV} {T:List zd7} {D n b nb:Nat} {h:AHeap},z3bf t→NodeT t c T→RowsAt h T→(∀y∈T,y.1 ∉ [b,nb])→b<h.next→nb<h.next→b≠nb→t.sz+2≤D→t.sz+256<n→t.sz<1000000→PieceW n D b nb h c t
 | .mk op w ks,_,_,0,n,b,nb,h,_,_,_,_,_,_,_,hD,_,_=>by omega
 | .mk op w ks,c,T,D+1,n,b,nb,h,⟨on1,on2⟩,k1,r1,hT,hb,hnb,hne,hD,hn,hz=>by
  intro N u H hN hu tH kb kn;rw[Nd.sz] at hD hn hz hu;have hsl:=z3c8 ks
  cases k1 with
  |mk hw g1 ks1=>
   rename_i kc1 kv1 T01 T11;have hT0:∀y∈T01,y.1 ∉ [b,nb]:=fun y hy=>hT y (List.mem_append_left _ hy);have hT1:∀y∈T11,y.1 ∉ [b,nb]:=fun y hy=>hT y (List.mem_append_right _ hy);have hl1:=ks1.len;have hK:∀c∈kc1,c.length=6∧c.all AV.one=true:=g1.1;obtain⟨a,b',c',d',rfl⟩:=z408 hw;have hbH:=Nat.lt_of_lt_of_le hb tH.1;have hnH:=Nat.lt_of_lt_of_le hnb tH.1;obtain⟨d,rfl⟩:∃d,D=d+2:=⟨D - 2,by omega⟩;have hv:=g1.one.1;have rH:=(r1.left.keepS tH hT0);have kk:=(z381 ks (D:=d+2) (n:=n) on2 ks1 r1.right hT1 hb hnb hne (by omega) (by omega) (by omega)).keep tH;apply Wp.ex;rw[z1ee,z4b]
   by_cases h2:op=2
   ·subst h2
    rw[if_pos rfl];exact(z495 hw (by omega) (by omega) hN hne kb hbH kn hnH hv).mono fun _ _ k=>k
   rw[if_neg h2]
   by_cases h3:op=3
   ·subst h3
    rw[if_pos rfl];exact(z497 g1 rH hT0 hK (by omega) (by omega) (by omega) (by omega) kk hN hne kb hbH kn hnH hv).mono fun _ _ k=>k
   rw[if_neg h3]
   by_cases h4:op=4
   ·subst h4
    rw[if_pos rfl];exact(z498 g1 rH hT0 hK (by omega) (by omega) (by omega) kk hN hne kb hbH kn hnH hv).mono fun _ _ k=>k
   rw[if_neg h4]
   by_cases h5:5≤op∧op≤7
   ·have hone := on1.2 h5.1
    match ks,hone,kk,hl1 with
    |[t1],_,kk,hl1=>
     match kc1,hl1,kk,g1 with
     |[c1],_,.cons e _,g1=>
      rw[szL] at hu hsl;simp only[z232]
      by_cases h56:op=5∨op=6
      ·rw [if_pos h56]
       rcases h56 with rfl|rfl
       ·exact(z450 g1 rH hT0 (by omega) (by omega) e hN hne kb hbH kn hnH hv).mono fun _ _ k=>k
       ·exact(z451 g1 rH hT0 (by omega) (by omega) e hN hne kb hbH kn hnH hv).mono fun _ _ k=>k
      rw[if_neg h56]
      obtain rfl:op=7:=by omega
      rw[if_pos rfl];exact(z496 g1 rH hT0 (by omega) e hN hne kb hbH kn hnH hv).mono fun _ _ k=>k
   ·rw [if_neg (by omega), if_neg (by omega)]
    unfold z19;have Mx:=y38 kb hbH kn hnH hne;have o1:=za0 (op:=op) (w:=[a,b',c',d']) hv;refine y16 Mx o1 fun h1 M1=>?_;clear Mx;have Mx:=M1;clear M1
    repeat(first|(with_reducible apply Wp.obind;first|exact z4 _ _|exact z8 _ _ _)|((with_reducible apply y15 Mx);rfl)|((with_reducible apply y10 Mx);rfl;rfl;(rfl);clear Mx;intro _ Mx)|((with_reducible apply y2f Mx);rfl)|((with_reducible apply y9 Mx);clear Mx;intro _ Mx)|(with_reducible first|refine y8 (fun _ _=>?_)|refine Wp.lett ?_)|((with_reducible refine y6 ?_ ?_;apply z83);omega)|(with_reducible refine yd (by assumption) ?_)|rw[ze])
    exact Wp.ret ⟨rfl,Mx.at2.1,Mx.at3.1,Mx.tch⟩
theorem z381:∀(ks:List Nd) {k1:List (List AV)} {T:List zd7} {D n b nb:Nat} {h:AHeap},oneL ks→KidsT ks k1 T→RowsAt h T→(∀y∈T,y.1 ∉ [b,nb])→b<h.next→nb<h.next→b≠nb→szL ks+2≤D→szL ks+256<n→szL ks<1000000→KidP n D b nb h k1 ks
 |[],_,_,_,_,_,_,_,_,k1,_,_,_,_,_,_,_,_=>by
  cases k1
  exact .nil
 |t::ks,_,_,D,n,b,nb,h,⟨p1,p2⟩,k1,r1,hT,hb,hnb,hne,hD,hn,hN=>by
  rw[szL] at hD hn hN
  cases k1 with
  |cons a1 b1=>exact .cons (z418 t p1 a1 r1.left (fun y hy=>hT y (List.mem_append_left _ hy)) hb hnb hne (by omega) (by omega) (by omega)) (z381 ks p2 b1 r1.right (fun y hy=>hT y (List.mem_append_right _ hy)) hb hnb hne (by omega) (by omega) (by omega))
end
section
variable {u:Bytes}{i:Nat}
theorem atom_esc{c:Nat}{r:Res}(h1:at? u i=some 92)(h2:at? u (i+1)=some c)(k:AtomP u i r):r=.ok (z3be c,i+2):=by
 cases k with
 |none h=>rw[h1] at h;cases h
 |open_bad h m=>rw[h1] at h;cases h
 |open_end h m n=>rw[h1] at h;cases h
 |group h m n=>rw[h1] at h;cases h
 |any h=>rw[h1] at h;cases h
 |set_bad h m=>rw[h1] at h;cases h
 |set h m=>rw[h1] at h;cases h
 |sl_end h n=>rw[h2] at n;cases n
 |sl h n=>
  rw[h2] at n
  cases n
  rfl
 |bad h b=>
  rw[h1] at h;cases h;unfold z111 at b;omega
 |one h b n=>
  rw[h1] at h;cases h;exact absurd rfl n.2.2.2
end
section
variable {u:Bytes}
theorem z4a9{w:List Nat}{j:Nat}{r:Except Nat (List Nat×Nat)}(a:LoopP u w j r):∀{r':Except Nat (List Nat×Nat)},LoopP u w j r'→r=r':=by
 induction a with
 |done n=>
  intro r' b
  cases b with
  |done _=>rfl
  |bad n' _=>exact absurd n n'
  |more n' _ _=>exact absurd n n'
 |bad n h=>
  intro r' b
  cases b with
  |done n'=>exact absurd n' n
  |bad n' h'=>
   rw[h] at h';cases h';rfl
  |more n' h' _=>
   rw[h] at h';cases h'
 |more n h m ih=>
  intro r' b
  cases b with
  |done n'=>exact absurd n' n
  |bad n' h'=>
   rw[h] at h';cases h'
  |more n' h' m'=>
   rw[h] at h';cases h';exact ih m'
theorem z28d{i:Nat}{r r':Except Nat (List Nat×Nat)}(a:SetP u i r)(b:SetP u i r'):r=r':=by
 cases a with
 |bad h=>
  cases b with
  |bad h'=>
   rw[h] at h';cases h';rfl
  |set h' _=>
   rw[h] at h';cases h'
 |set h m=>
  cases b with
  |bad h'=>
   rw[h] at h';cases h'
  |set h' m'=>
   rw[h] at h';cases h';rw[z4a9 m m']
mutual
theorem ze1:∀{l:List Nd} {i:Nat} {r r':Res},AltP u l i r→AltP u l i r'→r=r'
 |_,_,_,_,.bad h,.bad h'=>by
  cases z123 h h'
  rfl
 |_,_,_,_,.bad h,.last h' _=>by cases z123 h h'
 |_,_,_,_,.bad h,.more h' _ _=>by cases z123 h h'
 |_,_,_,_,.last h _,.bad h'=>by cases z123 h h'
 |_,_,_,_,.last h _,.last h' _=>by
  cases z123 h h'
  rfl
 |_,_,_,_,.last h n,.more h' n' _=>by
  cases z123 h h'
  exact absurd n' n
 |_,_,_,_,.more h _ _,.bad h'=>by cases z123 h h'
 |_,_,_,_,.more h n _,.last h' n'=>by
  cases z123 h h'
  exact absurd n n'
 |_,_,_,_,.more h n m,.more h' n' m'=>by
  cases z123 h h'
  exact ze1 m m'
termination_by structural _ _ _ _ a=>a
theorem z123:∀{l:List Nd} {i:Nat} {r r':Res},RowP u l i r→RowP u l i r'→r=r'
 |_,_,_,_,.stop s,.stop _=>rfl
 |_,_,_,_,.stop s,.bad s' _=>absurd s s'
 |_,_,_,_,.stop s,.more s' _ _=>absurd s s'
 |_,_,_,_,.bad s _,.stop s'=>absurd s' s
 |_,_,_,_,.bad _ h,.bad _ h'=>by
  cases z21f h h'
  rfl
 |_,_,_,_,.bad _ h,.more _ h' _=>by cases z21f h h'
 |_,_,_,_,.more s _ _,.stop s'=>absurd s' s
 |_,_,_,_,.more _ h _,.bad _ h'=>by cases z21f h h'
 |_,_,_,_,.more _ h m,.more _ h' m'=>by
  cases z21f h h'
  exact z123 m m'
termination_by structural _ _ _ _ a=>a
theorem z21f:∀{i:Nat} {r r':Res},PartP u i r→PartP u i r'→r=r'
 |_,_,_,.bad h,.bad h'=>by
  cases z112 h h'
  rfl
 |_,_,_,.bad h,.bare h' _=>by cases z112 h h'
 |_,_,_,.bad h,.sign h' _=>by cases z112 h h'
 |_,_,_,.bare h _,.bad h'=>by cases z112 h h'
 |_,_,_,.bare h _,.bare h' _=>by
  cases z112 h h'
  rfl
 |_,_,_,.bare h n,.sign h' n'=>by
  cases z112 h h'
  exact absurd n n'
 |_,_,_,.sign h _,.bad h'=>by cases z112 h h'
 |_,_,_,.sign h n,.bare h' n'=>by
  cases z112 h h'
  exact absurd n' n
 |_,_,_,.sign h _,.sign h' _=>by
  cases z112 h h'
  rfl
termination_by structural _ _ _ a=>a
theorem z112:∀{i:Nat} {r r':Res},AtomP u i r→AtomP u i r'→r=r'
 |_,_,_,.none h,b=>by
  cases b<;>first|rfl|(rename_i h' _;rw[h] at h';cases h';done)|(rename_i h' _ _;rw[h] at h';cases h';done)|(rename_i h';rw[h] at h';cases h';done)
 |_,_,_,.open_bad h m,b=>by
  cases b with
  |open_bad h' m'=>
   cases ze1 m m'
   rfl
  |open_end h' m' n'=>cases ze1 m m'
  |group h' m' n'=>cases ze1 m m'
  |none h'=>rw[h] at h';cases h'
  |any h'=>rw[h] at h';cases h'
  |set_bad h' _=>rw[h] at h';cases h'
  |set h' _=>rw[h] at h';cases h'
  |sl_end h' _=>rw[h] at h';cases h'
  |sl h' _=>rw[h] at h';cases h'
  |bad h' b'=>rw[h] at h';cases h';unfold z111 at b';omega
  |one h' _ n'=>rw[h] at h';cases h';exact absurd rfl n'.1
 |_,_,_,.open_end h m n,b=>by
  cases b with
  |open_bad h' m'=>cases ze1 m m'
  |open_end h' m' n'=>
   cases ze1 m m'
   rfl
  |group h' m' n'=>
   cases ze1 m m'
   exact absurd n' n
  |none h'=>rw[h] at h';cases h'
  |any h'=>rw[h] at h';cases h'
  |set_bad h' _=>rw[h] at h';cases h'
  |set h' _=>rw[h] at h';cases h'
  |sl_end h' _=>rw[h] at h';cases h'
  |sl h' _=>rw[h] at h';cases h'
  |bad h' b'=>rw[h] at h';cases h';unfold z111 at b';omega
  |one h' _ n'=>rw[h] at h';cases h';exact absurd rfl n'.1
 |_,_,_,.group h m n,b=>by
  cases b with
  |open_bad h' m'=>cases ze1 m m'
  |open_end h' m' n'=>
   cases ze1 m m'
   exact absurd n n'
  |group h' m' n'=>
   cases ze1 m m'
   rfl
  |none h'=>rw[h] at h';cases h'
  |any h'=>rw[h] at h';cases h'
  |set_bad h' _=>rw[h] at h';cases h'
  |set h' _=>rw[h] at h';cases h'
  |sl_end h' _=>rw[h] at h';cases h'
  |sl h' _=>rw[h] at h';cases h'
  |bad h' b'=>rw[h] at h';cases h';unfold z111 at b';omega
  |one h' _ n'=>rw[h] at h';cases h';exact absurd rfl n'.1
 |_,_,_,.any h,b=>by
  cases b with
  |any h'=>rfl
  |none h'=>rw[h] at h';cases h'
  |open_bad h' _=>rw[h] at h';cases h'
  |open_end h' _ _=>rw[h] at h';cases h'
  |group h' _ _=>rw[h] at h';cases h'
  |set_bad h' _=>rw[h] at h';cases h'
  |set h' _=>rw[h] at h';cases h'
  |sl_end h' _=>rw[h] at h';cases h'
  |sl h' _=>rw[h] at h';cases h'
  |bad h' b'=>rw[h] at h';cases h';unfold z111 at b';omega
  |one h' _ n'=>rw[h] at h';cases h';exact absurd rfl n'.2.1
 |_,_,_,.set_bad h m,b=>by
  cases b with
  |set_bad h' m'=>cases z28d m m';rfl
  |set h' m'=>cases z28d m m'
  |any h'=>rw[h] at h';cases h'
  |none h'=>rw[h] at h';cases h'
  |open_bad h' _=>rw[h] at h';cases h'
  |open_end h' _ _=>rw[h] at h';cases h'
  |group h' _ _=>rw[h] at h';cases h'
  |sl_end h' _=>rw[h] at h';cases h'
  |sl h' _=>rw[h] at h';cases h'
  |bad h' b'=>rw[h] at h';cases h';unfold z111 at b';omega
  |one h' _ n'=>rw[h] at h';cases h';exact absurd rfl n'.2.2.1
 |_,_,_,.set h m,b=>by
  cases b with
  |set_bad h' m'=>cases z28d m m'
  |set h' m'=>cases z28d m m';rfl
  |any h'=>rw[h] at h';cases h'
  |none h'=>rw[h] at h';cases h'
  |open_bad h' _=>rw[h] at h';cases h'
  |open_end h' _ _=>rw[h] at h';cases h'
  |group h' _ _=>rw[h] at h';cases h'
  |sl_end h' _=>rw[h] at h';cases h'
  |sl h' _=>rw[h] at h';cases h'
  |bad h' b'=>rw[h] at h';cases h';unfold z111 at b';omega
  |one h' _ n'=>rw[h] at h';cases h';exact absurd rfl n'.2.2.1
 |_,_,_,.sl_end h m,b=>by
  cases b with
  |sl_end h' _=>rfl
  |sl h' m'=>rw[m] at m';cases m'
  |set_bad h' m'=>rw[h] at h';cases h'
  |set h' m'=>rw[h] at h';cases h'
  |any h'=>rw[h] at h';cases h'
  |none h'=>rw[h] at h';cases h'
  |open_bad h' _=>rw[h] at h';cases h'
  |open_end h' _ _=>rw[h] at h';cases h'
  |group h' _ _=>rw[h] at h';cases h'
  |bad h' b'=>rw[h] at h';cases h';unfold z111 at b';omega
  |one h' _ n'=>rw[h] at h';cases h';exact absurd rfl n'.2.2.2
 |_,_,_,.sl h m,b=>(atom_esc h m b).symm
 |_,_,_,.bad h b1,b=>by
  unfold z111 at b1
  cases b with
  |bad h' b'=>rfl
  |one h' b' n'=>rw[h] at h';cases h';exact absurd b1 b'
  |sl_end h' _=>rw[h] at h';cases h';omega
  |sl h' m'=>rw[h] at h';cases h';omega
  |set_bad h' m'=>rw[h] at h';cases h';omega
  |set h' m'=>rw[h] at h';cases h';omega
  |any h'=>rw[h] at h';cases h';omega
  |none _=>rfl
  |open_bad h' _=>rw[h] at h';cases h';omega
  |open_end h' _ _=>rw[h] at h';cases h';omega
  |group h' _ _=>rw[h] at h';cases h';omega
 |_,_,_,.one h b1 n,b=>by
  obtain⟨n1,n2,n3,n4⟩:=n
  cases b with
  |bad h' b'=>rw[h] at h';cases h';exact absurd b' b1
  |one h' b' n'=>rw[h] at h';cases h';rfl
  |sl_end h' _=>rw[h] at h';cases h';exact absurd rfl n4
  |sl h' m'=>rw[h] at h';cases h';exact absurd rfl n4
  |set_bad h' m'=>rw[h] at h';cases h';exact absurd rfl n3
  |set h' m'=>rw[h] at h';cases h';exact absurd rfl n3
  |any h'=>rw[h] at h';cases h';exact absurd rfl n2
  |none h'=>rw[h] at h';cases h'
  |open_bad h' _=>rw[h] at h';cases h';exact absurd rfl n1
  |open_end h' _ _=>rw[h] at h';cases h';exact absurd rfl n1
  |group h' _ _=>rw[h] at h';cases h';exact absurd rfl n1
termination_by structural _ _ _ a=>a
end
end
section
variable {a u:Bytes}{k:Nat}
theorem z3de{w w':List Nat}{i j:Nat}(h:z10c a w i=.ok (w',j)):i<j∧j≤a.length:=by
 unfold z10c at h
 split at h
 ·cases h
 ·rename_i c j' h1
  obtain⟨_,h2,h3⟩:=z18a h1
  split at h
  ·split at h
   ·cases h
   ·rename_i e k h4
    obtain⟨_,h5,h6⟩:=z18a h4
    split at h
    ·cases h
    ·cases h
     exact⟨by omega,h6⟩
  ·cases h
   exact⟨h2,h3⟩
theorem z394{w:List Nat}{j:Nat}{r:Except Nat (List Nat×Nat)}(x:LoopP a w j r):j≤a.length→(∀w' j',r=.ok (w',j')→j<j'∧j'≤a.length)∧∀e,r=.error e→e≤a.length:=by
 induction x with
 |done n=>
  intro hj;obtain⟨hp,_⟩:=at?_some n;refine⟨fun w' j' e=>?_,fun e he=>by cases he⟩
  cases e
  exact⟨by omega,by omega⟩
 |bad n h=>
  intro hj;refine⟨fun w' j' e=>(by cases e),fun e he=>?_⟩;cases he;exact z189 hj h
 |more n h m ih=>
  intro hj;obtain⟨b1,b2⟩:=z3de h;obtain⟨c1,c2⟩:=ih b2;refine⟨fun w' j' e=>?_,c2⟩;obtain⟨d1,d2⟩:=c1 w' j' e;exact⟨by omega,d2⟩
theorem z411{i:Nat}(hi:i≤a.length):i≤z488 a i∧z488 a i≤a.length:=by
 unfold z488
 by_cases h94:at? a i=some 94
 ·obtain ⟨hp, _⟩ := at?_some h94
  rw[if_pos h94];omega
 ·rw [if_neg h94]
  omega
theorem setP_bad{i e:Nat}(x:SetP a i (.error e))(hi:i≤a.length):e≤a.length:=by
 obtain⟨s1,s2⟩:=z411 hi
 generalize hr:Except.error e=r at x
 cases x with
 |bad h=>
  cases hr;exact z189 s2 h
 |set h m=>
  rename_i w j r;obtain⟨b1,b2⟩:=z3de h
  cases r with
  |error e'=>
   cases hr;exact(z394 m b2).2 _ rfl
  |ok wj=>cases hr
theorem z410{i j:Nat}{w:List Nat}(x:SetP a i (.ok (w,j)))(hi:i≤a.length):i<j∧j≤a.length:=by
 obtain⟨s1,s2⟩:=z411 hi
 generalize hr:Except.ok (w,j)=r at x
 cases x with
 |bad h=>cases hr
 |set h m=>
  rename_i w' j' r;obtain⟨b1,b2⟩:=z3de h
  cases r with
  |error e'=>cases hr
  |ok wj=>
   obtain⟨w2,j2⟩:=wj;cases hr;obtain⟨c1,c2⟩:=(z394 m b2).1 _ _ rfl;exact⟨by omega,c2⟩
mutual
theorem z194:∀{l:List Nd} {i:Nat} {r:Res},AltP a l i r→i≤a.length→Bnd a i r
 |_,_,_,.bad h,hi=>z1c9 h hi
 |_,_,_,.last h _,hi=>by
  obtain⟨b1,b2⟩:=z1c9 h hi;exact⟨b1,b2⟩
 |_,_,r,.more h n m,hi=>by
  have h1:=z1c9 h hi;obtain⟨hp,_⟩:=at?_some n;have h2:=z194 m (by omega)
  cases r with
  |error e=>exact h2
  |ok tj=>
   obtain⟨b1,b2⟩:=h1;obtain⟨b3,b4⟩:=h2;exact⟨by omega,b4⟩
termination_by structural _ _ _ x=>x
theorem z1c9:∀{l:List Nd} {i:Nat} {r:Res},RowP a l i r→i≤a.length→Bnd a i r
 |_,_,_,.stop _,hi=>⟨Nat.le_refl _,hi⟩
 |_,_,_,.bad _ h,hi=>z2a8 h hi
 |_,_,r,.more _ h m,hi=>by
  obtain⟨b1,b2⟩:=z2a8 h hi;have h2:=z1c9 m b2
  cases r with
  |error e=>exact h2
  |ok tj=>
   obtain⟨b3,b4⟩:=h2;exact⟨by omega,b4⟩
termination_by structural _ _ _ x=>x
theorem z2a8:∀{i:Nat} {r:Res},PartP a i r→i≤a.length→Bnd1 a i r
 |_,_,.bad h,hi=>z23e h hi
 |_,_,.bare h _,hi=>z23e h hi
 |_,_,.sign (j:=j) h n,hi=>by
  obtain⟨b1,b2⟩:=z23e h hi
  have:j<a.length:=by
   rcases Nat.lt_or_ge j a.length with h|h
   ·exact h
   ·exfalso
    apply n;unfold z1af;rw[at?_ge h]
  exact⟨by omega,by omega⟩
termination_by structural _ _ x=>x
theorem z23e:∀{i:Nat} {r:Res},AtomP a i r→i≤a.length→Bnd1 a i r
 |_,_,.none _,hi=>hi
 |_,_,.open_bad h m,hi=>by
  obtain⟨hp,_⟩:=at?_some h;exact z194 m (by omega)
 |_,_,.open_end h m _,hi=>by
  obtain⟨hp,_⟩:=at?_some h;exact(z194 m (by omega)).2
 |_,_,.group h m n,hi=>by
  obtain⟨hp,_⟩:=at?_some h;obtain⟨b1,_⟩:=z194 m (by omega);obtain⟨hp2,_⟩:=at?_some n;exact⟨by omega,by omega⟩
 |_,_,.any h,hi=>by
  obtain⟨hp,_⟩:=at?_some h;exact⟨by omega,by omega⟩
 |_,_,.set_bad h m,hi=>by
  obtain⟨hp,_⟩:=at?_some h;exact setP_bad m (by omega)
 |_,_,.set h m,hi=>by
  obtain⟨hp,_⟩:=at?_some h;obtain⟨b1,b2⟩:=z410 m (by omega);exact⟨by omega,b2⟩
 |_,_,.sl_end h _,hi=>by
  obtain⟨hp,_⟩:=at?_some h;exact hp
 |_,_,.sl h n,hi=>by
  obtain⟨hp,_⟩:=at?_some n;exact⟨by omega,by omega⟩
 |_,_,.bad h _,hi=>hi
 |_,_,.one h _ _,hi=>by
  obtain⟨hp,_⟩:=at?_some h;exact⟨by omega,by omega⟩
termination_by structural _ _ x=>x
end
end
theorem z212:∀(l:List Nd) (t:Nd),szL (l++[t])=szL l+t.sz+1
 |[],t=>by
  simp only[List.nil_append,szL];omega
 |k::l,t=>by
  rw[List.cons_append,szL,z212 l t,szL];omega
theorem z34c(op:Nat):∀l:List Nd,(z203 op l).sz≤szL l+1
 |[]=>Nat.le_add_left 1 _
 |[t]=>by
  rw[szL,szL];show t.sz≤_;omega
 |_::_::_=>Nat.le_refl _
section
variable {a:Bytes}
mutual
theorem z403:∀{l:List Nd} {i:Nat} {r:Res},AltP a l i r→∀t j,r=.ok (t,j)→i≤a.length→t.sz≤szL l+6*(j - i)+(if l=[] then 1 else 3)
 |_,_,_,.bad h,t,j,e,hi=>by cases e
 |l,_,_,.last h n,t,j,e,hi=>by
  have h1:=z3d1 h _ _ rfl hi;rw[szL] at h1
  cases e
  by_cases hl:l=[]
  ·subst hl
   rw[if_pos rfl];show Nd.sz _≤_;simp only[List.nil_append,z203,szL];omega
  ·rw [if_neg hl]
   refine Nat.le_trans (z34c 4 _) ?_;rw[z212];omega
 |l,_,_,.more h n m,t,j,e,hi=>by
  obtain⟨hp,_⟩:=at?_some n;have h1:=z3d1 h _ _ rfl hi;obtain⟨c1,_⟩:=z1c9 h hi;rw[szL] at h1;have h2:=z403 m t j e (by omega);have hb:=z194 m (by omega);subst e;obtain⟨c2,_⟩:=hb;rw[if_neg (by simp),z212] at h2
  split<;>omega
termination_by structural _ _ _ x=>x
theorem z3d1:∀{l:List Nd} {i:Nat} {r:Res},RowP a l i r→∀t j,r=.ok (t,j)→i≤a.length→t.sz≤szL l+6*(j - i)+1
 |l,_,_,.stop h,t,j,e,hi=>by
  cases e
  have:=z34c 3 l;omega
 |_,_,_,.bad _ h,t,j,e,hi=>by cases e
 |l,_,_,.more n h m,t,j,e,hi=>by
  obtain⟨b1,b2⟩:=z2a8 h hi;have h1:=partP_sz h _ _ rfl hi;have h2:=z3d1 m t j e b2;have hb:=z1c9 m b2;subst e;obtain⟨c2,_⟩:=hb;rw[z212] at h2;omega
termination_by structural _ _ _ x=>x
theorem partP_sz:∀{i:Nat} {r:Res},PartP a i r→∀t j,r=.ok (t,j)→i≤a.length→t.sz+3≤6*(j - i)
 |_,_,.bad h,t,j,e,hi=>by cases e
 |_,_,.bare h n,t,j,e,hi=>z440 h t j e hi
 |_,_,.sign h n,t,j,e,hi=>by
  obtain⟨b1,b2⟩:=z23e h hi;have h1:=z440 h _ _ rfl hi
  cases e
  simp only[z385,Nd.sz,szL];omega
termination_by structural _ _ x=>x
theorem z440:∀{i:Nat} {r:Res},AtomP a i r→∀t j,r=.ok (t,j)→i≤a.length→t.sz+3≤6*(j - i)
 |_,_,.none _,t,j,e,hi=>by cases e
 |_,_,.open_bad h m,t,j,e,hi=>by cases e
 |_,_,.open_end h m _,t,j,e,hi=>by cases e
 |_,_,.group h m n,t,j,e,hi=>by
  obtain⟨hp,_⟩:=at?_some h;have h1:=z403 m _ _ rfl (by omega);obtain⟨b1,_⟩:=z194 m (by omega);rw[if_pos rfl,szL] at h1
  cases e
  omega
 |_,_,.any h,t,j,e,hi=>by
  cases e
  simp only[anyN,Nd.sz,szL];omega
 |_,_,.set_bad h m,t,j,e,hi=>by cases e
 |_,_,.set h m,t,j,e,hi=>by
  obtain⟨hp,_⟩:=at?_some h;obtain⟨b1,b2⟩:=z410 m (by omega)
  cases e
  simp only[Nd.sz,szL];omega
 |_,_,.sl_end h _,t,j,e,hi=>by cases e
 |_,_,.sl h n,t,j,e,hi=>by
  cases e
  simp only[z3be,Nd.sz,szL];omega
 |_,_,.bad h _,t,j,e,hi=>by cases e
 |_,_,.one h b n,t,j,e,hi=>by
  cases e
  simp only[z3be,Nd.sz,szL];omega
termination_by structural _ _ x=>x
end
theorem z473{t:Nd}{j:Nat}(h:AltP a [] 0 (.ok (t,j))):t.sz≤6*a.length+1:=by
 have h1:=z403 h t j rfl (Nat.zero_le _);obtain⟨_,b2⟩:=z194 h (Nat.zero_le _);rw[if_pos rfl,szL] at h1;omega
end
section
variable {u:Bytes}
theorem flat_sz{F:Nat→Res}{u:Bytes}(hF:∀i t j,F i=.ok (t,j)→t.sz≤3∧i<j){l:List Nd}{i:Nat}{r:Res}(k:FlatP F u l i r):∀t,dropJ r=.ok t→t.sz≤szL l+4*(u.length - i)+1:=by
 induction k with
 |stop s=>
  intro t e
  cases e
  refine Nat.le_trans (z34c 3 _) ?_;omega
 |bad s h=>
  intro t e
  cases e
 |more s h m ih=>
  intro t e;have h1:=ih t e;obtain⟨h2,h3⟩:=hF _ _ _ h;rw[z212] at h1;omega
theorem partL_sz(u:Bytes):∀i t j,z285 u i=.ok (t,j)→t.sz≤3∧i<j:=by
 intro i t j h;unfold z285 at h
 split at h
 ·cases h
 ·cases h
  exact⟨by simp[z3be,Nd.sz,szL],by omega⟩
theorem partG_sz(u:Bytes):∀i t j,z341 u i=.ok (t,j)→t.sz≤3∧i<j:=by
 intro i t j h;unfold z341 at h
 split at h
 ·cases h
 split at h
 ·cases h
  exact⟨by simp[z385,anyN,Nd.sz,szL],by omega⟩
 split at h
 ·cases h
  exact⟨by simp[anyN,Nd.sz,szL],by omega⟩
 split at h
 ·split at h
  ·cases h
  ·cases h
   exact⟨by simp[z3be,Nd.sz,szL],by omega⟩
 ·cases h
  exact⟨by simp[z3be,Nd.sz,szL],by omega⟩
theorem z1f0{k:Int}{u:Bytes}{t:Nd}(h:TreeP u k (.ok t)):t.sz≤6*u.length+1:=by
 generalize hr:Except.ok t=r at h
 cases h with
 |lit a=>
  have:=flat_sz (partL_sz u) a t hr.symm;rw[szL] at this;omega
 |glob a=>
  have:=flat_sz (partG_sz u) a t hr.symm;rw[szL] at this;omega
 |re_bad a=>cases hr
 |re_end a ne=>cases hr
 |re a=>
  cases hr;exact z473 a
end
theorem z1b6:∀{l:List Nd} {t:Nd},oneL l→z3bf t→oneL (l++[t])
 |[],_,_,h=>⟨h,trivial⟩
 |_::_,_,⟨a,b⟩,h=>⟨a,z1b6 b h⟩
theorem z2ae{op:Nat}(ho:op<5):∀{l:List Nd},oneL l→z3bf (z203 op l)
 |[],_=>⟨⟨fun h=>absurd h (by decide),fun h=>absurd h (by decide)⟩,trivial⟩
 |[_],⟨h,_⟩=>h
 |_::_::_,h=>⟨⟨fun _=>List.cons_ne_nil _ _,fun hh=>absurd hh (by omega)⟩,h⟩
theorem z225(c:Nat):z3bf (z3be c):=⟨⟨fun h=>absurd h (by decide),fun h=>absurd h (by decide)⟩,trivial⟩
theorem z344:z3bf anyN:=⟨⟨fun h=>absurd h (by decide),fun h=>absurd h (by decide)⟩,trivial⟩
theorem z38a{op:Nat}{t:Nd}(h:z3bf t):z3bf (z385 op [t]):=⟨⟨fun _=>List.cons_ne_nil _ _,fun _=>rfl⟩,h,trivial⟩
section
variable {u:Bytes}
mutual
theorem z2da:∀{l:List Nd} {i:Nat} {r:Res},AltP u l i r→oneL l→∀t j,r=.ok (t,j)→z3bf t
 |_,_,_,.bad _,_,_,_,e=>by cases e
 |_,_,_,.last h _,hl,t,j,e=>by
  cases e
  exact z2ae (by decide) (z1b6 hl (z2a4 h trivial _ _ rfl))
 |_,_,_,.more h _ m,hl,t,j,e=>z2da m (z1b6 hl (z2a4 h trivial _ _ rfl)) t j e
termination_by structural _ _ _ x=>x
theorem z2a4:∀{l:List Nd} {i:Nat} {r:Res},RowP u l i r→oneL l→∀t j,r=.ok (t,j)→z3bf t
 |_,_,_,.stop _,hl,t,j,e=>by
  cases e
  exact z2ae (by decide) hl
 |_,_,_,.bad _ _,_,_,_,e=>by cases e
 |_,_,_,.more _ h m,hl,t,j,e=>z2a4 m (z1b6 hl (z452 h _ _ rfl)) t j e
termination_by structural _ _ _ x=>x
theorem z452:∀{i:Nat} {r:Res},PartP u i r→∀t j,r=.ok (t,j)→z3bf t
 |_,_,.bad _,_,_,e=>by cases e
 |_,_,.bare h _,t,j,e=>z32a h t j e
 |_,_,.sign h _,t,j,e=>by
  cases e
  exact z38a (z32a h _ _ rfl)
termination_by structural _ _ x=>x
theorem z32a:∀{i:Nat} {r:Res},AtomP u i r→∀t j,r=.ok (t,j)→z3bf t
 |_,_,.none _,_,_,e=>by cases e
 |_,_,.open_bad _ _,_,_,e=>by cases e
 |_,_,.open_end _ _ _,_,_,e=>by cases e
 |_,_,.group _ m _,t,j,e=>by
  cases e
  exact z2da m trivial _ _ rfl
 |_,_,.any _,t,j,e=>by
  cases e
  exact z344
 |_,_,.set_bad _ _,_,_,e=>by cases e
 |_,_,.set _ _,t,j,e=>by
  cases e
  exact⟨⟨fun h=>absurd h (by decide),fun h=>absurd h (by decide)⟩,trivial⟩
 |_,_,.sl_end _ _,_,_,e=>by cases e
 |_,_,.sl _ _,t,j,e=>by
  cases e
  exact z225 _
 |_,_,.bad _ _,_,_,e=>by cases e
 |_,_,.one _ _ _,t,j,e=>by
  cases e
  exact z225 _
termination_by structural _ _ x=>x
end
theorem z3aa{F:Nat→Res}(hF:∀i t j,F i=.ok (t,j)→z3bf t){l:List Nd}{i:Nat}{r:Res}(k:FlatP F u l i r):oneL l→∀t,dropJ r=.ok t→z3bf t:=by
 induction k with
 |stop s=>
  intro hl t e
  cases e
  exact z2ae (by decide) hl
 |bad s h=>
  intro _ t e
  cases e
 |more s h m ih=>
  intro hl t e;exact ih (z1b6 hl (hF _ _ _ h)) t e
theorem z248{k:Int}{t:Nd}(h:TreeP u k (.ok t)):z3bf t:=by
 generalize hr:Except.ok t=r at h
 cases h with
 |lit a=>
  refine z3aa (F:=z285 u) (fun i t j h=>?_) a trivial t hr.symm;unfold z285 at h
  split at h
  ·cases h
  ·cases h
   exact z225 _
 |glob a=>
  refine z3aa (F:=z341 u) (fun i t j h=>?_) a trivial t hr.symm;unfold z341 at h
  split at h
  ·cases h
  split at h
  ·cases h
   exact z38a z344
  split at h
  ·cases h
   exact z344
  split at h
  ·split at h
   ·cases h
   ·cases h
    exact z225 _
  ·cases h
   exact z225 _
 |re_bad a=>cases hr
 |re_end a ne=>cases hr
 |re a=>
  cases hr;exact z2da a trivial _ _ rfl
end
def z1ec:Nt:=⟨false,0,0,List.replicate 64 0,List.replicate 256 0⟩
theorem z2f9:NtOk z1ec:=⟨List.length_replicate,List.length_replicate,by decide,by decide,fun x hx=>by rw[List.eq_of_mem_replicate hx];decide,fun x hx=>by rw[List.eq_of_mem_replicate hx];decide⟩
def rawOf(t:Nd):Nt:={(z4b t z1ec 0).2.1 with empty:=(z4b t z1ec 0).1.empty,first:=(z4b t z1ec 0).1.first,last:=(z4b t z1ec 0).1.last}
def za4(t:Nd):Nt:=(rawOf t).trim
theorem z415(t:Nd):NtOk (rawOf t):=by
 have:=z109 t (u:=0) z2f9;exact⟨this.n.fl,this.n.tl,this.p.f,this.p.l,this.n.fs,this.n.ts⟩
theorem z41e(t:Nd):NtOk (za4 t):=(z415 t).trim
theorem z37c{S:List Nat}{h0 h:AHeap}{rs T:List zd7}(M:Abs.Mem S h0 h rs)(hs:∀y∈T,y∈rs):RowsAt h T:=fun y hy=>⟨(M.row y (hs y hy)).1,(M.row y (hs y hy)).2.1⟩
theorem apart2{S:List Nat}{h0 h:AHeap}{x y:zd7}{rs T:List zd7}(M:Abs.Mem S h0 h (x::y::rs))(hs:∀z∈T,z∈rs):(∀z∈T,z.1 ∉ [x.1,y.1])∧x.1≠y.1:=by
 have ap:=M.apart;rw[List.map_cons,List.map_cons,List.nodup_cons,List.nodup_cons] at ap;refine⟨fun z hz hm=>?_,fun e=>ap.1 (by rw[e];exact List.mem_cons_self)⟩
 rcases List.mem_cons.1 hm with e|hm
 ·exact ap.1 (List.mem_cons_of_mem _ (by rw[←e];exact List.mem_map_of_mem (hs z hz)))
 ·exact ap.2.1 (by rw[←List.mem_singleton.1 hm];exact List.mem_map_of_mem (hs z hz))
set_option maxRecDepth 100000 in
theorem bldBl(b o:Nat):z2d3 Tryd.prog TBl [(0,.ptr b o)]=some [.ptr b o,.int .i64 0]:=by kernel_rfl
section
variable {n d:Nat}{h:AHeap}{u:Bytes}{k:Int}{t:Nd}{c:List AV}{T:List zd7}{H:AHeap}{e1 q:Int}
theorem z308(he:e1≠0)(ht:∀h,zbb z22 h.ex=false→world n d 36 [.agg [.int .i64 k,strA u]] h=some (.ret (.tup [.agg (z8a 0 z8e .nsl),.agg [.int .i64 e1,.int .i64 q]]),h))(hx:zbb z22 h.ex=false):
  world n (d+1) 25 [.agg [.int .i64 k,strA u]] h=some (.ret (.tup [.nilp,.int .i64 2]),h):=by
 apply Wp.eq;rw[z409];refine y3c ?_
 suffices hK:Wp (z1e7 (world n d) n [.int .i64 k,strA u] h) fun r h'=>r=.ret (.tup [.nilp,.int .i64 2])∧Tch [] h h' from hK.mono fun r h' ⟨e,t⟩=>⟨t.above,by rw[e];rfl,e,rfl⟩
 unfold z1e7;have Mx:=Mem.nil [] h;have hxN:∀{h1:AHeap} {rs:List zd7},Abs.Mem [] h h1 rs→zbb z22 h1.ex=false:=fun M=>by rw[M.ex];exact hx
 repeat(first|((with_reducible apply y15 Mx);rfl)|((with_reducible apply y16 Mx);(rfl);clear Mx;intro _ Mx))
 refine Wp.callN (ht _ (hxN Mx)) ?_
 repeat(first|(with_reducible apply Wp.obind;exact z4 _ _)|((with_reducible apply y20 Mx);rfl)|((with_reducible apply y10 Mx);rfl;rfl;(rfl);clear Mx;intro _ Mx)|((with_reducible apply y24 Mx);rfl;rfl;(rfl);clear Mx;intro _ Mx)|((with_reducible apply y9 Mx);clear Mx;intro _ Mx)|(with_reducible first|refine Wp.lett ?_|(apply Wp.obind;first|exact z11 _|exact zf1 _ _|exact zf0 _ _ _))|((with_reducible refine y7 ?_ ?_;apply z17b);omega)|rw[ze])
 exact Wp.ret ⟨rfl,Mx.tch⟩
set_option maxRecDepth 100000 in
theorem of_ok(hk1:z3bf t)(hsz:t.sz<100000)(hd:t.sz+2≤d)(hn:18446744073709551620<n)(ht:∀h,zbb z22 h.ex=false→∃c T h',world n d 36 [.agg [.int .i64 k,strA u]] h=some (.ret (.tup [.agg c,.agg [.int .i64 0,.int .i64 0]]),h')∧NodeT t c T∧Abs.Mem [] h h' T)(hx:zbb z22 h.ex=false):
  ∃nb h',world n (d+1) 25 [.agg [.int .i64 k,strA u]] h=some (.ret (.tup [.ptr nb 0,.int .i64 0]),h')∧Abs.Mem [] h h' [(nb,TNet,netC (za4 t))]:=by
 suffices hK:Wp (gcR h (z1e7 (world n d) n [.int .i64 k,strA u] h)) fun r h'=>∃nb,r=.ret (.tup [.ptr nb 0,.int .i64 0])∧Abs.Mem [] h h' [(nb,TNet,netC (za4 t))] by
  obtain⟨_,h',e,nb,rfl,k2⟩:=hK;rw[←z409] at e;exact⟨nb,h',e,k2⟩
 suffices hK:Wp (z1e7 (world n d) n [.int .i64 k,strA u] h) fun r h'=>∃nb,r=.ret (.tup [.ptr nb 0,.int .i64 0])∧Abs.Mem [] h h' [(nb,TNet,netC (za4 t))] by
  obtain⟨_,h',e,nb,rfl,k2⟩:=hK;refine y5c ⟨_,h',e,⟨nb,rfl,k2⟩,fun _ hl=>?_⟩
  have h1:AV.lo h.next (.ptr nb 0)=true:=by
   have:(AV.lo h.next (.ptr nb 0)&&(AV.lo h.next (.int .i64 0)&&y1e h.next []))=true:=hl;rw[Bool.and_eq_true] at this;exact this.1
  have h2:=k2.at0.2.2.resolve_left (by simp);have h3:nb<h.next:=by simpa [AV.lo] using h1
  omega
 unfold z1e7;have Mx:=Mem.nil [] h;have hxN:∀{h1:AHeap} {rs:List zd7},Abs.Mem [] h h1 rs→zbb z22 h1.ex=false:=fun M=>by rw[M.ex];exact hx
 repeat(first|((with_reducible apply y15 Mx);rfl)|((with_reducible apply y16 Mx);(rfl);clear Mx;intro _ Mx))
 obtain⟨c,T,H1,e1,kt1,M1⟩:=ht _ (hxN Mx);refine Wp.callN e1 ?_;have M2:=y3f (xs:=[]) (ys:=[]) Mx M1;clear Mx M1;have Mx:=M2;clear M2;simp only[List.nil_append] at Mx
 repeat(first|((with_reducible apply y9 Mx);clear Mx;intro _ Mx)|(with_reducible apply Wp.obind;first|exact z11 _|exact zf1 _ _|exact zf0 _ _ _)|rw[ze])
 refine y24 Mx kt1.len rfl kt1.one fun h3 M3=>?_;clear Mx;have Mx:=M3;clear M3
 repeat(first|(with_reducible apply Wp.obind;exact z4 _ _)|((with_reducible apply y20 Mx);rfl)|((with_reducible apply y10 Mx);rfl;rfl;(rfl);clear Mx;intro _ Mx)|((with_reducible apply y16 Mx);(rfl);clear Mx;intro _ Mx)|(with_reducible refine Wp.lett ?_)|((with_reducible refine y6 ?_ ?_;apply z17c);omega)|rw[ze])
 have M4:Abs.Mem [] h _ ((_,TNet,netC z1ec)::_):=Mx;clear Mx;have Mx:=M4;clear M4
 repeat(first|((with_reducible apply y10 Mx);rfl;rfl;(rfl);clear Mx;intro _ Mx)|((with_reducible apply y9 Mx);clear Mx;intro _ Mx)|(with_reducible apply Wp.obind;exact bldBl _ _))
 refine y3b Mx kt1.len ?_;obtain⟨d2,rfl⟩:∃d2,d=d2+2:=⟨d - 2,by omega⟩;obtain⟨hTn,hne⟩:=apart2 (T:=T) Mx (fun y hy=>by simp[hy]);have rT:=z37c (T:=T) Mx (fun y hy=>by simp[hy]);obtain⟨h5,e5,kb5,kn5,t5⟩:=z418 t (n:=n) (D:=d2+2) hk1 kt1 rT hTn Mx.at0.2.1 Mx.at1.2.1 hne hd (by omega) (by omega) z1ec 0 _ z2f9 (by omega) (Tch.refl _ _) Mx.at0.1 Mx.at1.1;refine Wp.callN e5 ?_;clear e5 hTn rT hne;have M5:=y34 (xs:=[]) Mx t5 kb5 kn5;clear Mx;have Mx:=M5;clear M5;simp only[List.nil_append] at Mx
 repeat(first|(with_reducible apply Wp.obind;first|exact z4 _ _|exact z5 _|exact z10 _ _|exact z8 _ _ _)|((with_reducible apply y20 Mx);rfl)|((with_reducible apply y10 Mx);rfl;rfl;(rfl);clear Mx;intro _ Mx)|((with_reducible apply y2f Mx);rfl)|((with_reducible apply Wp.ms2 Mx);exact Nat.le_of_ble_eq_true rfl;rfl;clear Mx;intro _ Mx)|((with_reducible apply y9 Mx);clear Mx;intro _ Mx)|((with_reducible refine Wp.chk ?_ ?_);focus ((repeat' (first|(with_reducible exact rfl)|(with_reducible apply z267)|((with_reducible apply Mem.re0 Mx);kernel_rfl;rfl)));done))|(with_reducible apply Wp.obind;exact z11 _)|rw[ze])
 obtain⟨h6,e6,kn6,t6⟩:=trim_r (n:=n) (d:=d2) (z415 t) hn (h:=_) Mx.at2.1;refine Wp.callN e6 ?_;have M6:=y17 (xs:=[_,_]) Mx t6 kn6;clear Mx;have Mx:=M6;clear M6;simp only[List.cons_append,List.nil_append] at Mx
 repeat(((with_reducible apply y2f Mx);rfl))
 refine Wp.ret ⟨_,rfl,fun x hx=>Mx.row x ?_,List.nodup_cons.2 ⟨List.not_mem_nil,List.nodup_nil⟩,Mx.tch⟩;rw[List.mem_singleton] at hx;rw[hx];exact List.mem_cons_of_mem _ (List.mem_cons_of_mem _ List.mem_cons_self)
end
abbrev z476:Nat:=93
def stepN(N:Nt)(st:Bool×Nat)(c:Nat):Bool×Nat:=(true,(if st.1=true then N.behind st.2 else N.first)&&&N.ta.getD c 0)
def z12b(N:Nt)(st:Bool×Nat):Bool:=if st.1=true then decide (st.2&&&N.last≠0) else N.empty
def z16d(N:Nt)(st:Bool×Nat):Bool:=if st.1=true then decide (st.2=0) else !N.empty&&decide (N.first=0)
noncomputable def z478(nb:Nat)(st:Bool×Nat):List AV:=[.ptr nb 0,.bool st.1,.int .u64 (st.2:Int)]
def runN(N:Nt)(st:Bool×Nat)(s:Bytes):Bool×Nat:=s.foldl (fun st c=>stepN N st c.toNat) st
def zeb(N:Nt)(s:Bytes):Bool:=z12b N (runN N (false,0) s)
theorem behF_zero(fo:List Nat):∀(f acc:Nat),behF fo f 0 acc=acc
 |0,_=>rfl
 |_+1,_=>rfl
theorem beh_zero(N:Nt):N.behind 0=0:=behF_zero _ _ _
theorem z373(N:Nt)(c:Nat):stepN N (true,0) c=(true,0):=by
 unfold stepN;rw[if_pos rfl,beh_zero,Nat.zero_and]
theorem z412(N:Nt):∀s:Bytes,runN N (true,0) s=(true,0)
 |[]=>rfl
 |c::s=>by
  show runN N (stepN N (true,0) c.toNat) s=_;rw[z373];exact z412 N s
theorem z3b1{N:Nt}{st:Bool×Nat}(h:z16d N st=true)(c:Nat):z16d N (stepN N st c)=true:=by
 obtain⟨b,m⟩:=st
 cases b with
 |true=>
  have:m=0:=of_decide_eq_true h;subst this;rw[z373];rfl
 |false=>
  have h2:(!N.empty&&decide (N.first=0))=true:=h;rw[Bool.and_eq_true,decide_eq_true_eq] at h2;show decide ((N.first&&&_)=0)=true;rw[h2.2,Nat.zero_and];rfl
theorem done_live{N:Nt}{st:Bool×Nat}(h:z12b N st=true):z16d N st=false:=by
 obtain⟨b,m⟩:=st
 cases b with
 |true=>
  have h2:m&&&N.last≠0:=of_decide_eq_true h;show decide (m=0)=false;rw[decide_eq_false_iff_not];intro e;rw[e,Nat.zero_and] at h2;exact h2 rfl
 |false=>
  have h2:N.empty=true:=h;show (!N.empty&&_)=false;rw[h2];rfl
theorem z2fe{N:Nt}(k:NtOk N)(st:Bool×Nat)(c:Nat):(stepN N st c).2 <18446744073709551616:=by
 show (if st.1=true then N.behind st.2 else N.first)&&&_<_;refine zd5 ?_
 split
 ·exact N.behind_small k _
 ·exact k.f
section
variable {N:Nt}{n d nb rb:Nat}{h:AHeap}{Q:ARes→AHeap→Prop}{st:Bool×Nat}
set_option maxRecDepth 100000 in
theorem eqRun(b o:Nat)(h:AHeap):ze4 Tryd.prog h .eql 120 true (some (.ptr b o)) (some AV.nilp)=some (.val (.bool false),h):=by kernel_rfl
set_option maxRecDepth 100000 in
theorem eqNet(b o:Nat)(h:AHeap):ze4 Tryd.prog h .eql 47 true (some (.ptr b o)) (some AV.nilp)=some (.val (.bool false),h):=by kernel_rfl
set_option maxRecDepth 100000 in
theorem bldRun(b o:Nat):z2d3 Tryd.prog z476 [(0,.ptr b o)]=some [.ptr b o,.bool false,.int .u64 0]:=by kernel_rfl
theorem z49f(kr:RowH h rb z476 (z478 nb st)):world n (d+1) 61 [.ptr rb 0] h=some (.ret (.bool false),h):=by
 apply Wp.eq;rw[z2e0];unfold zff;have c1:z7 h (.ptr rb (0+0))=some (.ptr nb 0):=y5 kr rfl
 repeat(with_reducible first|refine y8 (fun _ _=>?_)|(apply Wp.obind;first|exact c1|exact z5 _|exact z10 _ _|exact z8 _ _ _)|(refine y6 ?_ ?_;rfl)|(apply Wp.outK;first|exact eqRun _ _ _|exact eqNet _ _ _)|refine yd (by assumption) ?_)
 exact Wp.ret ⟨rfl,rfl⟩
theorem done_w(hN:NtOk N)(hs:st.2<18446744073709551616)(kr:RowH h rb z476 (z478 nb st))(kn:RowH h nb TNet (netC N)):world n (d+2) 41 [.ptr rb 0] h=some (.ret (.bool (z12b N st)),h):=by
 apply Wp.eq;rw[z2e2];unfold z101;have e0:=z49f (n:=n) (d:=d) kr;have c1:z7 h (.ptr rb (0+0))=some (.ptr nb 0):=y5 kr rfl;have c2:z7 h (.ptr rb (0+1))=some (.bool st.1):=y5 kr rfl;have c3:z7 h (.ptr rb (0+2))=some (.int .u64 (st.2:Int)):=y5 kr rfl;have c4:z7 h (.ptr nb (0+0))=some (.bool N.empty):=y5 kn rfl;have c5:z7 h (.ptr nb (0+2))=some (.int .u64 (N.last:Int)):=y5 kn rfl;have e1:=z114 hs hN.l;unfold z12b
 repeat(with_reducible first|refine Wp.lett ?_|(apply Wp.obind;first|exact c2|exact z5 _|exact z10 _ _|exact z8 _ _ _)|(refine y6 ?_ ?_;rfl)|(apply Wp.callN;exact e0))
 cases hb:st.1 with
 |false=>
  repeat(with_reducible first|(apply Wp.obind;first|exact c1|exact c4|exact z5 _|exact z10 _ _|exact z8 _ _ _)|(refine y7 ?_ ?_;exact Bool.not_false))
  exact Wp.ret ⟨rfl,rfl⟩
 |true=>
  repeat(with_reducible first|refine Wp.lett ?_|(apply Wp.obind;first|exact c1|exact c3|exact c5|exact z4 _ _|exact z10 _ _|exact z8 _ _ _)|(refine y6 ?_ ?_;exact Bool.not_true))
  rw[e1];refine Wp.ret ⟨?_,rfl⟩
  by_cases hz:st.2&&&N.last=0
  ·rw [hz]
   rfl
  ·rw[if_pos rfl,decide_eq_true hz,show (((st.2&&&N.last:Nat):Int) != 0)=true from z17b (by omega)]
theorem dead_w(kr:RowH h rb z476 (z478 nb st))(kn:RowH h nb TNet (netC N)):world n (d+2) 40 [.ptr rb 0] h=some (.ret (.bool (z16d N st)),h):=by
 apply Wp.eq;rw[z2e3];unfold z102;have e0:=z49f (n:=n) (d:=d) kr;have c1:z7 h (.ptr rb (0+0))=some (.ptr nb 0):=y5 kr rfl;have c2:z7 h (.ptr rb (0+1))=some (.bool st.1):=y5 kr rfl;have c3:z7 h (.ptr rb (0+2))=some (.int .u64 (st.2:Int)):=y5 kr rfl;have c4:z7 h (.ptr nb (0+0))=some (.bool N.empty):=y5 kn rfl;have c5:z7 h (.ptr nb (0+1))=some (.int .u64 (N.first:Int)):=y5 kn rfl
 have hz:∀x:Nat,(((x:Nat):Int) == 0)=decide (x=0):=fun x=>by
  by_cases h0:x=0
  ·rw [h0]
   rfl
  ·rw [decide_eq_false h0]
   exact z83 (by omega)
 unfold z16d
 repeat(with_reducible first|refine Wp.lett ?_|(apply Wp.obind;first|exact c2|exact z5 _|exact z10 _ _|exact z8 _ _ _)|(refine y6 ?_ ?_;rfl)|(apply Wp.callN;exact e0))
 cases hb:st.1 with
 |false=>
  cases he:N.empty with
  |true=>
   rw[he] at c4
   repeat(with_reducible first|refine y8 (fun _ _=>?_)|refine Wp.lett ?_|(apply Wp.obind;first|exact c1|exact c4|exact z5 _|exact z10 _ _|exact z8 _ _ _)|(refine y7 ?_ ?_;exact Bool.not_false)|(refine y6 ?_ ?_;exact Bool.not_true)|refine yd (by assumption) ?_)
   exact Wp.ret ⟨rfl,rfl⟩
  |false=>
   rw[he] at c4
   repeat(with_reducible first|refine y8 (fun _ _=>?_)|refine Wp.lett ?_|(apply Wp.obind;first|exact c1|exact c4|exact c5|exact z4 _ _|exact z5 _|exact z10 _ _|exact z8 _ _ _)|(refine y7 ?_ ?_;exact Bool.not_false)|refine yd (by assumption) ?_)
   rw[hz];exact Wp.ret ⟨rfl,rfl⟩
 |true=>
  repeat(with_reducible first|refine Wp.lett ?_|(apply Wp.obind;first|exact c3|exact z4 _ _|exact z10 _ _|exact z8 _ _ _)|(refine y6 ?_ ?_;exact Bool.not_true))
  rw[hz];exact Wp.ret ⟨rfl,rfl⟩
theorem step_r(hT:HasTz h)(hN:NtOk N)(hs:st.2<18446744073709551616)(hn:18446744073709551616<n)(hne:rb≠nb){c:Nat}(hc:c<256)(kr:RowH h rb z476 (z478 nb st))(kn:RowH h nb TNet (netC N))(hnb:nb<h.next):∃h',world n (d+3) 39 [.ptr rb 0,.int .u8 (c:Int)] h=some (.ret (.tup []),h')∧RowH h' rb z476 (z478 nb (stepN N st c))∧Tch [rb] h h':=by
 apply Wp.ex;rw[z2e1];unfold z100;have e0:=z49f (n:=n) (d:=d+1) kr;have c1:z7 h (.ptr rb (0+0))=some (.ptr nb 0):=y5 kr rfl;have c2:z7 h (.ptr rb (0+1))=some (.bool st.1):=y5 kr rfl;have c3:z7 h (.ptr rb (0+2))=some (.int .u64 (st.2:Int)):=y5 kr rfl;have c5:z7 h (.ptr nb (0+1))=some (.int .u64 (N.first:Int)):=y5 kn rfl;have e1:=beh_w (n:=n) (d:=d) hT hN kn hs hn;have e3:=z15f (b:=nb) (o:=0+67) hc
 have fin:∀(m:Nat),m<18446744073709551616→(stepN N st c).2=m&&&N.ta.getD c 0→Wp (obind (z15 h 1 [.bool true] (.ptr rb (0+1))) fun h_25=>
   obind (z74 (.ptr rb 0)) fun t33=>obind (z49 0 t33) fun t34=>obind (z7 h_25 t34) fun v35=>obind (z74 v35) fun t37=>obind (z49 67 t37) fun t38=>
   obind (z313 256 1 t38 (c:Int)) fun t39=>obind (z7 h_25 t39) fun v40=>obind (avInt .u64 v40) fun t40=>lett (z3ba .u64 (m:Int) t40) fun (t41:Int)=>
   obind (z74 (.ptr rb 0)) fun t42=>obind (z49 2 t42) fun t43=>obind (z15 h_25 1 [.int .u64 t41] t43) fun h_38=>some (.ret (.tup []),h_38))
   fun r h'=>r=.ret (.tup [])∧RowH h' rb z476 (z478 nb (stepN N st c))∧Tch [rb] h h':=by
  intro m hm he;refine Wp.st1 kr (by show 1<3;decide) rfl fun h1 k1 t1 _=>?_;have kn1:=kn.tch t1 hnb (by simpa using fun e=>hne e.symm);have d1:z7 h1 (.ptr rb (0+0))=some (.ptr nb 0):=y5 k1 rfl;have d2:z7 h1 (.ptr nb (0+67+c))=some (.int .u64 (N.ta.getD c 0:Int)):=y5 kn1 (by rw[Nat.zero_add,z4a4 hN hc])
  repeat(with_reducible first|refine Wp.lett ?_|(apply Wp.obind;first|exact d1|exact d2|exact e3|exact z4 _ _|exact z10 _ _|exact z8 _ _ _))
  rw[z114 hm (zc1 hN.ts c), ←he];refine Wp.st1 k1 (by show 2<3;decide) rfl fun h2 k2 t2 _=>?_;exact Wp.ret ⟨rfl,k2,t1.trans t2⟩
 repeat(with_reducible first|refine y8 (fun _ _=>?_)|(apply Wp.obind;first|exact c1|exact c2|exact c5|exact z4 _ _|exact z5 _|exact z10 _ _|exact z8 _ _ _)|(refine y6 ?_ ?_;rfl)|(apply Wp.callN;exact e0))
 cases hb:st.1 with
 |true=>
  repeat(with_reducible first|(apply Wp.obind;first|exact c1|exact c3|exact z4 _ _|exact z10 _ _|exact z8 _ _ _)|(refine y7 ?_ ?_;rfl)|(apply Wp.callN;exact e1)|refine yd (by assumption) ?_)
  exact fin (N.behind st.2) (N.behind_small hN _) (by unfold stepN;rw[if_pos hb])
 |false=>
  repeat(with_reducible first|(apply Wp.obind;first|exact z10 _ _|exact z8 _ _ _)|(refine y6 ?_ ?_;rfl)|refine yd (by assumption) ?_)
  exact fin N.first hN.f (by unfold stepN;rw[if_neg (by rw[hb];decide)])
end
section
variable {N:Nt}{n d nb rb:Nat}{h h0:AHeap}{Q:ARes→AHeap→Prop}{st:Bool×Nat}{S:List Nat}{rs:List zd7}
theorem begin_m(M:Abs.Mem S h0 h rs):∃h',world n (d+1) 65 [.ptr nb 0] h=some (.ret (.ptr h.next 0),h')∧Abs.Mem S h0 h' ((h.next,z476,z478 nb (false,0))::rs):=by
 apply Wp.ex;rw[z299];unfold zdd;have Mx:=M
 repeat(first|(with_reducible apply Wp.obind;exact z5 _)|((with_reducible apply y16 Mx);(rfl);clear Mx;intro _ Mx)|(with_reducible first|(apply Wp.obind;exact bldRun _ _)|(refine y6 ?_ ?_;rfl)|(apply Wp.outK;exact eqNet _ _ _)))
 exact Wp.ret ⟨rfl,Mx⟩
theorem z468{st:Bool×Nat}(hb:st.1=true)(hd:z16d N st=true)(s:Bytes):z12b N (runN N st s)=false:=by
 obtain⟨b,m⟩:=st;have:b=true:=hb;subst this;have:m=0:=of_decide_eq_true hd;subst this;rw[z412];show decide (0&&&N.last≠0)=false;rw[Nat.zero_and];rfl
theorem run_cons{s:Bytes}{i:Nat}(hi:i<s.length)(st:Bool×Nat):runN N st (s.drop i)=runN N (stepN N st (s[i]).toNat) (s.drop (i+1)):=by
 rw[List.drop_eq_getElem_cons hi];rfl
theorem byte_lt{s:Bytes}{i:Nat}(hi:i<s.length):(s[i]).toNat <256:=(s[i]).toNat_lt
theorem z30f{s:Bytes}{k17:AHeap→R}{h4:AHeap}(hT:HasTz h0)(hN:NtOk N)(hn:18446744073709551616<n)(hl:s.length<1000000000)(kn:RowH h0 nb TNet (netC N))(hnb:nb<h0.next)(hk:∀(st:Bool×Nat) (H:AHeap),st.2<18446744073709551616→Abs.Mem [] h0 H [(h4.next,z476,z478 nb st)]→z12b N st=zeb N s→Wp (k17 H) Q)(hq:∀H,Tch [] h0 H→zeb N s=false→Q (.ret (.bool false)) H):
  ∀(m f i:Nat) (st:Bool×Nat) (H:AHeap),m<f→i+m=s.length→st.2<18446744073709551616→z12b N (runN N st (s.drop i))=zeb N s→Abs.Mem [] h0 H [(h4.next,z476,z478 nb st)]→Wp (zba (world n (d+3)) s h4 k17 f (i:Int) H) Q
 |_,0,_,_,_,hf,_,_,_,_=>by omega
 |0,f+1,i,st,H,hf,hm,hs,hr,M=>by
  have ll:=z5b s;rw[z10b];unfold za3
  repeat(first|(with_reducible refine Wp.lett ?_)|((with_reducible refine y6 ?_ ?_;apply decide_eq_false);omega))
  refine hk st H hs M ?_;rw[List.drop_of_length_le (by omega)] at hr;exact hr
 |m+1,f+1,i,st,H,hf,hm,hs,hr,M=>by
  have ll:=z5b s;have hi:i<s.length:=by omega
  rw[z10b];unfold za3;have hx:=z231 hi;have kn1:=kn.tch M.tch hnb (by simp);have hn1:=Nat.lt_of_lt_of_le hnb M.tch.1
  have hne:h4.next≠nb:=by
   have:=M.at0.2.2.resolve_left (by simp);omega
  obtain⟨h1,e1,k1,t1⟩:=step_r (n:=n) (d:=d) (hT.tch M.tch (by simp)) hN hs hn hne (byte_lt hi) M.at0.1 kn1 hn1;have M1:=y17 (xs:=[]) M t1 k1;have kn2:=kn1.tch t1 hn1 (by simpa using fun e=>hne e.symm);have e2:=dead_w (n:=n) (d:=d+1) k1 kn2;have el:(i:Int)+1=((i+1:Nat):Int):=by omega
  rw[run_cons hi] at hr
  ((with_reducible refine Wp.lett ?_))
  refine y7 (decide_eq_true (by omega)) ?_;refine Wp.obind hx ?_;rw[ze];refine Wp.callN e1 ?_;refine Wp.callN e2 ?_;refine Wp.obind (z5 _) ?_;cases hd:z16d N (stepN N st (s[i]).toNat) with
  |true=>
   (((with_reducible refine y7 ?_ ?_);(with_reducible rfl)))
   refine Wp.ret (hq _ M1.tch ?_);rw[←hr];exact z468 rfl hd _
  |false=>
   repeat(first|((with_reducible refine ye ?_ ?_ ?_);omega;omega)|(with_reducible refine y6 ?_ ?_;rfl))
   rw[el];exact z30f hT hN hn hl kn hnb hk hq m f (i+1) _ h1 (by omega) (by omega) (z2fe hN _ _) hr M1
theorem match_r{s:Bytes}(hT:HasTz h)(hN:NtOk N)(hn:18446744073709551616<n)(hl:s.length<1000000000)(kn:RowH h nb TNet (netC N))(hnb:nb<h.next):∃h',world n (d+4) 26 [.ptr nb 0,strA s] h=some (.ret (.bool (zeb N s)),h')∧Tch [] h h':=by
 apply Wp.ex;rw[z298];unfold zdc;have Mx:=Mem.nil [] h
 repeat(first|(with_reducible apply Wp.obind;exact z5 _)|((with_reducible apply y10 Mx);rfl;rfl;(rfl);clear Mx;intro _ Mx)|((with_reducible apply y9 Mx);clear Mx;intro _ Mx)|(with_reducible first|refine yf (fun _ _=>?_)|(apply Wp.obind;exact bldRun _ _)|(refine y6 ?_ ?_;rfl)|(apply Wp.outK;exact eqNet _ _ _))|rw[ze])
 rename_i k17 ek17;refine z30f (h0:=h) hT hN hn hl kn hnb (fun st H hs M hd=>?_) (fun H t e=>⟨by rw[e],t⟩) s.length n 0 (false,0) _ (by omega) (by omega) (show 0<_ by decide) (by rw[List.drop_zero];rfl) Mx;rw[ek17];have e2:=done_w (n:=n) (d:=d+1) hN hs M.at0.1 (kn.tch M.tch hnb (by simp));refine Wp.callN e2 ?_
 (((with_reducible apply Wp.obind);(with_reducible exact z5 _)))
 exact Wp.ret ⟨by rw[hd],M.tch⟩
section
variable {u:Bytes}
theorem z36c{u:Bytes}(l:64<u.length){kind:Int}(hk:kind=1∨kind=2∨kind=3){n D:Nat}{h:AHeap}:world n (D+1) 36 [.agg [.int .i64 kind,strA u]] h=some (.ret (.tup [.agg (z8a 0 z8e .nsl),.agg [.int .i64 3,.int .i64 64]]),h):=by
 rcases hk with rfl|rfl|rfl
 ·apply Wp.eq
  rw[z32];refine y3c ?_
  suffices hK:Wp (z12 (world n D) n [.int .i64 1,strA u] h) fun r h'=>r=.ret (.tup [.agg (z8a 0 z8e .nsl),.agg [.int .i64 3,.int .i64 64]])∧Tch [] h h' from hK.mono fun r h' ⟨e,t⟩=>⟨t.above,by rw[e];rfl,e,rfl⟩
  unfold z12;have ll:=z5b u;have Mx:=Mem.nil [] h
  repeat(first|(with_reducible apply Wp.obind;first|exact z4 _ _|exact z6e _|exact z8 _ _ _)|((with_reducible apply y15 Mx);rfl)|((with_reducible apply y10 Mx);rfl;rfl;(rfl);clear Mx;intro _ Mx)|((with_reducible apply y1f Mx);rfl)|((with_reducible apply y24 Mx);rfl;rfl;(rfl);clear Mx;intro _ Mx)|((with_reducible apply y1b Mx);rfl)|((with_reducible apply y9 Mx);clear Mx;intro _ Mx)|((with_reducible apply y16 Mx);(rfl);clear Mx;intro _ Mx)|(with_reducible first|refine y8 (fun _ _=>?_)|refine Wp.lett ?_)|((with_reducible refine y7 ?_ ?_);((with_reducible first|apply decide_eq_true|apply z17b);omega))|((with_reducible refine y6 ?_ ?_);first|(with_reducible rfl)|((with_reducible apply z17c);omega))|(with_reducible refine yd (by assumption) ?_)|rw[ze])
  exact Wp.ret ⟨rfl,Mx.tch⟩
 ·apply Wp.eq
  rw[z32];refine y3c ?_
  suffices hK:Wp (z12 (world n D) n [.int .i64 2,strA u] h) fun r h'=>r=.ret (.tup [.agg (z8a 0 z8e .nsl),.agg [.int .i64 3,.int .i64 64]])∧Tch [] h h' from hK.mono fun r h' ⟨e,t⟩=>⟨t.above,by rw[e];rfl,e,rfl⟩
  unfold z12;have ll:=z5b u;have Mx:=Mem.nil [] h
  repeat(first|(with_reducible apply Wp.obind;first|exact z4 _ _|exact z6e _|exact z8 _ _ _)|((with_reducible apply y15 Mx);rfl)|((with_reducible apply y10 Mx);rfl;rfl;(rfl);clear Mx;intro _ Mx)|((with_reducible apply y1f Mx);rfl)|((with_reducible apply y24 Mx);rfl;rfl;(rfl);clear Mx;intro _ Mx)|((with_reducible apply y1b Mx);rfl)|((with_reducible apply y9 Mx);clear Mx;intro _ Mx)|((with_reducible apply y16 Mx);(rfl);clear Mx;intro _ Mx)|(with_reducible first|refine y8 (fun _ _=>?_)|refine Wp.lett ?_)|((with_reducible refine y7 ?_ ?_);((with_reducible first|apply decide_eq_true|apply z17b);omega))|((with_reducible refine y6 ?_ ?_);first|(with_reducible rfl)|((with_reducible apply z17c);omega))|(with_reducible refine yd (by assumption) ?_)|rw[ze])
  exact Wp.ret ⟨rfl,Mx.tch⟩
 ·apply Wp.eq
  rw[z32];refine y3c ?_
  suffices hK:Wp (z12 (world n D) n [.int .i64 3,strA u] h) fun r h'=>r=.ret (.tup [.agg (z8a 0 z8e .nsl),.agg [.int .i64 3,.int .i64 64]])∧Tch [] h h' from hK.mono fun r h' ⟨e,t⟩=>⟨t.above,by rw[e];rfl,e,rfl⟩
  unfold z12;have ll:=z5b u;have Mx:=Mem.nil [] h
  repeat(first|(with_reducible apply Wp.obind;first|exact z4 _ _|exact z6e _|exact z8 _ _ _)|((with_reducible apply y15 Mx);rfl)|((with_reducible apply y10 Mx);rfl;rfl;(rfl);clear Mx;intro _ Mx)|((with_reducible apply y1f Mx);rfl)|((with_reducible apply y24 Mx);rfl;rfl;(rfl);clear Mx;intro _ Mx)|((with_reducible apply y1b Mx);rfl)|((with_reducible apply y9 Mx);clear Mx;intro _ Mx)|((with_reducible apply y16 Mx);(rfl);clear Mx;intro _ Mx)|(with_reducible first|refine y8 (fun _ _=>?_)|refine Wp.lett ?_)|((with_reducible refine y7 ?_ ?_);((with_reducible first|apply decide_eq_true|apply z17b);omega))|((with_reducible refine y6 ?_ ?_;apply z17c);omega)|(with_reducible refine yd (by assumption) ?_)|rw[ze])
  exact Wp.ret ⟨rfl,Mx.tch⟩
end
end
open Go.RowKit Abs
mutual
def z12a:Nd→Bool
 | .mk op _ ks=>if op=1∨op=5∨op=7 then true else if op=3∨op=6 then allN ks else if op=4 then z3c9 ks else false
def allN:List Nd→Bool
 |[]=>true
 |k::ks=>z12a k&&allN ks
def z3c9:List Nd→Bool
 |[]=>false
 |k::ks=>z12a k||z3c9 ks
end
inductive KidB (fid:Nat) (h:AHeap) (D n:Nat):List (List AV)→List Nd→Prop
 |nil:KidB fid h D n [] []
 |cons {c:List AV} {t:Nd} {l:List (List AV)} {ks:List Nd} (e:∀h',Tch [] h h'→world n D fid [.agg c] h'=some (.ret (.bool (z12a t)),h')) (k:KidB fid h D n l ks):KidB fid h D n (c::l) (t::ks)
section
variable {h0 H:AHeap}{n D:Nat}{kv:AV}{K:List (List AV)}{T:List zd7}{Q:ARes→AHeap→Prop}
theorem z383{k27:AHeap→R}(g:GrowT z22 6 K kv T)(r:RowsAt h0 T)(hK:∀c∈K,c.length=6∧c.all AV.one=true)(hn:K.length<20000000):∀(l:List (List AV)) (ks:List Nd) (i f:Nat) (H:AHeap),KidB 64 h0 D n l ks→K.drop i=l→K.length - i<f→Tch [] h0 H→
  (allN ks=true→∀H',Tch [] h0 H'→Wp (k27 H') Q)→(allN ks=false→∀H',Tch [] h0 H'→Q (.ret (.bool false)) H')→Wp (z90 (world n D) kv (K.length:Int) k27 f (i:Int) H) Q
 |_,_,_,0,_,_,_,hf,_,_,_=>by omega
 |l,ks,i,f+1,H,kk,d1,hf,ht,hk,hq=>by
  rw[z159];unfold zda
  cases kk with
  |nil=>
   have:=drop_nil d1
   repeat(first|(with_reducible refine Wp.lett ?_)|((with_reducible refine y6 ?_ ?_;apply decide_eq_false);omega))
   exact hk rfl H ht
  |cons e k=>
   rename_i c t m ks;obtain⟨hi1,hc,d2⟩:=z17a d1;obtain⟨p1,_,x1,y1⟩:=(Slc.keep g r ht).row hi1;obtain⟨l6,o6⟩:=hK _ (List.getElem_mem hi1);rw[hc] at y1 l6 o6;have Mx:=Mem.nil [] H
   repeat(first|((with_reducible apply y9 Mx);clear Mx;intro _ Mx)|(with_reducible first|refine Wp.lett ?_|(apply Wp.obind;first|exact x1|exact y1))|((with_reducible refine y7 ?_ ?_;apply decide_eq_true);omega)|rw[ze])
   refine y10 Mx l6 rfl o6 fun h2 M2=>?_;refine y15 M2 l6 ?_;have es:=e h2 (ht.trans M2.tch);have ei:(i:Int)+1=((i+1:Nat):Int):=by omega
   cases hb:z12a t with
   |true=>
    rw[hb] at es
    repeat(first|((with_reducible refine ye ?_ ?_ ?_);omega;omega)|(with_reducible first|refine Wp.lett ?_|(apply Wp.obind;exact z5 _)|(refine y6 ?_ ?_;exact Bool.not_true)|(apply Wp.callN;exact es)))
    rw[ei];refine z383 g r hK hn m ks (i+1) f h2 k d2 (by omega) (ht.trans M2.tch) (fun h=>hk ?_) fun h=>hq ?_
    ·rw[allN,hb,h];rfl
    ·rw[allN,hb,h];rfl
   |false=>
    rw[hb] at es
    repeat(with_reducible first|refine Wp.lett ?_|(apply Wp.obind;exact z5 _)|(refine y7 ?_ ?_;exact Bool.not_false)|(apply Wp.callN;exact es))
    exact Wp.ret (hq (by rw[allN,hb];rfl) _ (ht.trans M2.tch))
theorem z301{k62:AHeap→R}(g:GrowT z22 6 K kv T)(r:RowsAt h0 T)(hK:∀c∈K,c.length=6∧c.all AV.one=true)(hn:K.length<20000000):∀(l:List (List AV)) (ks:List Nd) (i f:Nat) (H:AHeap),KidB 64 h0 D n l ks→K.drop i=l→K.length - i<f→Tch [] h0 H→
  (z3c9 ks=false→∀H',Tch [] h0 H'→Wp (k62 H') Q)→(z3c9 ks=true→∀H',Tch [] h0 H'→Q (.ret (.bool true)) H')→Wp (zb5 (world n D) kv (K.length:Int) k62 f (i:Int) H) Q
 |_,_,_,0,_,_,_,hf,_,_,_=>by omega
 |l,ks,i,f+1,H,kk,d1,hf,ht,hk,hq=>by
  rw[z158];unfold zd9
  cases kk with
  |nil=>
   have:=drop_nil d1
   repeat(first|(with_reducible refine Wp.lett ?_)|((with_reducible refine y6 ?_ ?_;apply decide_eq_false);omega))
   exact hk rfl H ht
  |cons e k=>
   rename_i c t m ks;obtain⟨hi1,hc,d2⟩:=z17a d1;obtain⟨p1,_,x1,y1⟩:=(Slc.keep g r ht).row hi1;obtain⟨l6,o6⟩:=hK _ (List.getElem_mem hi1);rw[hc] at y1 l6 o6;have Mx:=Mem.nil [] H
   repeat(first|((with_reducible apply y9 Mx);clear Mx;intro _ Mx)|(with_reducible first|refine Wp.lett ?_|(apply Wp.obind;first|exact x1|exact y1))|((with_reducible refine y7 ?_ ?_;apply decide_eq_true);omega)|rw[ze])
   refine y10 Mx l6 rfl o6 fun h2 M2=>?_;refine y15 M2 l6 ?_;have es:=e h2 (ht.trans M2.tch);have ei:(i:Int)+1=((i+1:Nat):Int):=by omega
   cases hb:z12a t with
   |false=>
    rw[hb] at es
    repeat(first|((with_reducible refine ye ?_ ?_ ?_);omega;omega)|(with_reducible first|(apply Wp.obind;exact z5 _)|(refine y6 ?_ ?_;rfl)|(apply Wp.callN;exact es)))
    rw[ei];refine z301 g r hK hn m ks (i+1) f h2 k d2 (by omega) (ht.trans M2.tch) (fun h=>hk ?_) fun h=>hq ?_
    ·rw[z3c9,hb,h];rfl
    ·rw[z3c9,hb,h];rfl
   |true=>
    rw[hb] at es
    repeat(with_reducible first|(apply Wp.obind;exact z5 _)|(refine y7 ?_ ?_;rfl)|(apply Wp.callN;exact es))
    exact Wp.ret (hq (by rw[z3c9,hb];rfl) _ (ht.trans M2.tch))
end
mutual
theorem z384:∀(t:Nd) {c:List AV} {T:List zd7} {D n:Nat} {h:AHeap},NodeT t c T→RowsAt h T→t.sz≤D→t.sz<n→t.sz<20000000→world n D 64 [.agg c] h=some (.ret (.bool (z12a t)),h)
 | .mk op w ks,_,_,0,n,h,_,_,hD,_,_=>by
  rw[Nd.sz] at hD;omega
 | .mk op w ks,c,T,D+1,n,h,k1,r1,hD,hn,hN=>by
  rw[Nd.sz] at hD hn hN;have hsl:=z3c8 ks
  cases k1 with
  |mk hw g1 ks1=>
   rename_i kc1 kv1 T01 T11;have kk:=z303 ks (D:=D) (n:=n) ks1 r1.right (by omega) (by omega) (by omega);have hl1:=ks1.len;have hK:∀c∈kc1,c.length=6∧c.all AV.one=true:=g1.1;obtain⟨a,b,c,d,rfl⟩:=z408 hw;apply Wp.eq;rw[z295];refine y3c ?_
   suffices hK:Wp (zac (world n D) n (z8a op [a,b,c,d] kv1) h) fun r h'=>r=.ret (.bool (z12a (.mk op [a,b,c,d] ks)))∧Tch [] h h' from hK.mono fun r h' ⟨e,t⟩=>⟨t.above,by rw[e];rfl,e,rfl⟩
   unfold zac;have Mx:=Mem.nil [] h;have o1:=za0 (op:=op) (w:=[a,b,c,d]) g1.one.1;have len1:=g1.len;refine y16 Mx o1 fun h1 M1=>?_;clear Mx;have Mx:=M1;clear M1;rw[z12a]
   by_cases h157:op=1∨op=5∨op=7
   ·rw [if_pos h157]
    rcases h157 with rfl|rfl|rfl
    ·repeat (first | (with_reducible apply Wp.obind; first | exact z4 _ _ | exact z8 _ _ _) | ((with_reducible apply y20 Mx); rfl) | (with_reducible first | refine y8 (fun _ _ => ?_) | refine Wp.lett ?_) | ((with_reducible refine y7 ?_ ?_); first | (with_reducible rfl) | ((with_reducible apply z66); omega)) | (with_reducible refine yd (by assumption) ?_))
     exact Wp.ret ⟨rfl,Mx.tch⟩
    ·repeat (first | (with_reducible apply Wp.obind; first | exact z4 _ _ | exact z8 _ _ _) | ((with_reducible apply y20 Mx); rfl) | (with_reducible first | refine y8 (fun _ _ => ?_) | refine Wp.lett ?_) | ((with_reducible refine y7 ?_ ?_); first | (with_reducible rfl) | ((with_reducible apply z66); omega)) | ((with_reducible refine y6 ?_ ?_; apply z83); omega) | (with_reducible refine yd (by assumption) ?_))
     exact Wp.ret ⟨rfl,Mx.tch⟩
    ·repeat (first | (with_reducible apply Wp.obind; first | exact z4 _ _ | exact z8 _ _ _) | ((with_reducible apply y20 Mx); rfl) | (with_reducible first | refine y8 (fun _ _ => ?_) | refine Wp.lett ?_) | ((with_reducible refine y7 ?_ ?_; apply z66); omega) | ((with_reducible refine y6 ?_ ?_; apply z83); omega) | (with_reducible refine yd (by assumption) ?_))
     exact Wp.ret ⟨rfl,Mx.tch⟩
   rw[if_neg h157]
   by_cases h36:op=3∨op=6
   ·rw [if_pos h36]
    have fin:∀{k27:AHeap→R},(k27=fun h_28=>some (.ret (.bool true),h_28))→Wp (z90 (world n D) kv1 (kc1.length:Int) k27 n 0 h1) fun r h'=>r=.ret (.bool (allN ks))∧Tch [] h h':=by
     intro k27 ek;refine z383 (h0:=h) g1 r1.left hK (by omega) kc1 ks 0 n h1 kk List.drop_zero (by omega) Mx.tch (fun ha H' t=>?_) fun ha H' t=>?_
     ·rw [ek, ha]
      exact Wp.ret ⟨rfl,t⟩
     ·rw [ha]
      exact⟨rfl,t⟩
    rcases h36 with rfl|rfl
    ·repeat (first | (with_reducible apply Wp.obind; first | exact z4 _ _ | exact z8 _ _ _) | ((with_reducible apply y20 Mx); rfl) | (with_reducible first | (first | refine yf (fun _ _ => ?_) | refine y8 (fun _ _ => ?_)) | refine Wp.lett ?_ | (apply Wp.obind; exact len1)) | ((with_reducible refine y7 ?_ ?_; apply z66); omega) | ((with_reducible refine y6 ?_ ?_; apply z83); omega) | (with_reducible refine yd (by assumption) ?_))
     exact fin (by assumption)
    ·repeat (first | (with_reducible apply Wp.obind; first | exact z4 _ _ | exact z8 _ _ _) | ((with_reducible apply y20 Mx); rfl) | (with_reducible first | (first | refine yf (fun _ _ => ?_) | refine y8 (fun _ _ => ?_)) | refine Wp.lett ?_ | (apply Wp.obind; exact len1)) | ((with_reducible refine y7 ?_ ?_); first | (with_reducible rfl) | ((with_reducible apply z66); omega)) | ((with_reducible refine y6 ?_ ?_; apply z83); omega) | (with_reducible refine yd (by assumption) ?_))
     exact fin (by assumption)
   rw[if_neg h36]
   by_cases h4:op=4
   ·rw [if_pos h4]
    subst h4
    repeat(first|(with_reducible apply Wp.obind;first|exact z4 _ _|exact z8 _ _ _)|((with_reducible apply y20 Mx);rfl)|(with_reducible first|(first|refine yf (fun _ _=>?_)|refine y8 (fun _ _=>?_))|refine Wp.lett ?_|(apply Wp.obind;exact len1))|((with_reducible refine y7 ?_ ?_;apply z66);omega)|((with_reducible refine y6 ?_ ?_;apply z83);omega)|(with_reducible refine yd (by assumption) ?_))
    refine z301 (h0:=h) g1 r1.left hK (by omega) kc1 ks 0 n h1 kk List.drop_zero (by omega) Mx.tch (fun ha H' t=>?_) fun ha H' t=>?_
    ·repeat ((with_reducible refine y26 (by assumption) ?_))
     rw[ha];exact Wp.ret ⟨rfl,t⟩
    ·rw [ha]
     exact⟨rfl,t⟩
   ·rw [if_neg h4]
    repeat(first|(with_reducible apply Wp.obind;first|exact z4 _ _|exact z8 _ _ _)|((with_reducible apply y20 Mx);rfl)|(with_reducible first|(first|refine yf (fun _ _=>?_)|refine y8 (fun _ _=>?_))|refine Wp.lett ?_)|((with_reducible refine y6 ?_ ?_;apply z83);omega)|(with_reducible first|refine y26 (by assumption) ?_|refine yd (by assumption) ?_))
    exact Wp.ret ⟨rfl,Mx.tch⟩
theorem z303:∀(ks:List Nd) {k1:List (List AV)} {T:List zd7} {D n:Nat} {h:AHeap},KidsT ks k1 T→RowsAt h T→szL ks≤D→szL ks<n→szL ks<20000000→KidB 64 h D n k1 ks
 |[],_,_,_,_,_,k1,_,_,_,_=>by
  cases k1
  exact .nil
 |t::ks,_,_,D,n,h,k1,r1,hD,hn,hN=>by
  rw[szL] at hD hn hN
  cases k1 with
  |cons a1 b1=>exact .cons (fun h' th=>z384 t a1 (r1.left.keep th) (by omega) (by omega) (by omega)) (z303 ks b1 r1.right (by omega) (by omega) (by omega))
end
theorem z3f7{k:Int}{u:Bytes}{t:Nd}{n D:Nat}(hn:1000<n)(hD:1000≤D)(hsz:t.sz<900)(ht:∀h,zbb z22 h.ex=false→∃c T h',world n D 36 [.agg [.int .i64 k,strA u]] h=some (.ret (.tup [.agg c,.agg [.int .i64 0,.int .i64 0]]),h')∧NodeT t c T∧Abs.Mem [] h h' T){h:AHeap}(hx:zbb z22 h.ex=false):world n (D+1) 44 [.agg [.int .i64 k,strA u]] h=some (.ret (.bool (z12a t)),h):=by
 have hxN:∀{h1:AHeap} {rs:List zd7},Abs.Mem [] h h1 rs→zbb z22 h1.ex=false:=fun M=>by rw[M.ex];exact hx
 apply Wp.eq;rw[z296];refine y3c ?_
 suffices hK:Wp (zad (world n D) n [.int .i64 k,strA u] h) fun r h'=>r=.ret (.bool (z12a t))∧Tch [] h h' from hK.mono fun r h' ⟨e,t⟩=>⟨t.above,by rw[e];rfl,e,rfl⟩
 unfold zad;have Mx:=Mem.nil [] h
 repeat(first|((with_reducible apply y15 Mx);rfl)|((with_reducible apply y16 Mx);(rfl);clear Mx;intro _ Mx))
 obtain⟨c1,T1,H1,e1,kt1,M1⟩:=ht _ (hxN Mx);refine Wp.callN e1 ?_;have M2:=y3f (xs:=[]) (ys:=[]) Mx M1;refine Wp.obind (zf1 _ _) (Wp.obind (z11 _) (Wp.obind (zf0 _ _ _) (Wp.obind (z11 _) ?_)));refine y9 M2 fun h27 M3=>y9 M3 fun h29 M4=>?_;rw[ze,ze];refine y24 M4 kt1.len rfl kt1.one fun h31 M5=>y10 M5 rfl rfl rfl fun h33 M6=>?_;have r1:RowsAt h33 T1:=z37c M6 (fun y hy=>by simp[hy]);have f1:z16 h33 6 (.ptr H1.next 0)=some c1:=y12 M6.at1.1 kt1.len;have es:=z384 (D:=D) (n:=n) (h:=h33) t kt1 r1 (by omega) (by omega) (by omega);clear Mx;have Mx:=M6;clear M1 M2 M3 M4 M5 M6
 repeat(first|(with_reducible apply Wp.obind;first|exact z4 _ _|exact z5 _)|((with_reducible apply y20 Mx);rfl)|(with_reducible first|refine y8 (fun _ _=>?_)|refine Wp.lett ?_|(apply Wp.obind;exact f1))|((with_reducible refine y7 ?_ ?_;apply z66);omega)|(with_reducible first|(apply Wp.callN;exact es)|refine yd (by assumption) ?_))
 exact Wp.ret ⟨rfl,Mx.tch⟩
theorem arm_all(k:Int)(u:Bytes){n d:Nat}(hn:18446744073709551620<n)(hd:1100≤d):(∀h:AHeap,zbb z22 h.ex=false→world n (d+1) 25 [.agg [.int .i64 k,strA u]] h=some (.ret (.tup [.nilp,.int .i64 2]),h))∨
  ∃t,TreeP u k (.ok t)∧u.length≤64∧∀h:AHeap,zbb z22 h.ex=false→(∃nb h',world n (d+1) 25 [.agg [.int .i64 k,strA u]] h=some (.ret (.tup [.ptr nb 0,.int .i64 0]),h')∧Abs.Mem [] h h' [(nb,TNet,netC (za4 t))])∧world n (d+1) 44 [.agg [.int .i64 k,strA u]] h=some (.ret (.bool (z12a t)),h):=by
 obtain⟨D,rfl⟩:∃D,d=D+3:=⟨d - 3,by omega⟩
 by_cases hk:k=1∨k=2∨k=3
 ·by_cases hl : 64 < u.length
  ·exact .inl fun h hx=>z308 (e1:=3) (q:=64) (by decide) (fun h hx=>z36c hl hk) hx
  ·obtain ⟨r, r1, _, r3⟩ := (z247 (u := u) (by omega) hk).2 (by omega)
   cases r with
   |error q=>exact .inl fun h hx=>z308 (e1:=6) (q:=(q:Int)) (by decide) (fun h hx=>r3 (by omega) (by omega) hx) hx
   |ok t=>
    have hz:=z1f0 r1;exact .inr ⟨t,r1,by omega,fun h hx=>⟨of_ok (z248 r1) (by omega) (by omega) hn (fun h hx=>r3 (by omega) (by omega) hx) hx,z3f7 (by omega) (by omega) (by omega) (fun h hx=>r3 (by omega) (by omega) hx) hx⟩⟩
 ·exact .inl fun h hx=>z308 (e1:=2) (q:=0) (by decide) (fun h hx=>z36d hk) hx
abbrev z20c:Nat:=123
abbrev z1a9:Nat:=95
abbrev z3c1:Nat:=97
abbrev z19b:=Nat×(Bool×Nat)×Nat
noncomputable def z2fb(x:z19b):List AV:=[.ptr x.1 0,.int .i64 (x.2.2:Int)]
noncomputable def z9a:List z19b→List AV
 |[]=>[]
 |x::l=>z2fb x++z9a l
theorem z9d:∀l:List z19b,(z9a l).length=2*l.length
 |[]=>rfl
 |x::l=>by
  have:=z9d l;rw[z9a,List.length_append,List.length_cons,this];show 2+_=_;omega
theorem z170:∀a b:List z19b,z9a (a++b)=z9a a++z9a b
 |[],_=>rfl
 |x::a,b=>by rw[List.cons_append,z9a,z9a,z170 a b,List.append_assoc]
def RunsAt(h:AHeap)(nb:Nat)(l:List z19b):Prop:=∀x∈l,RowH h x.1 z476 (z478 nb x.2.1)∧x.1<h.next∧x.2.1.2<18446744073709551616
theorem RunsAt.tch{S:List Nat}{h h':AHeap}{nb:Nat}{l:List z19b}(k:RunsAt h nb l)(t:Tch S h h')(hd:∀x∈l,x.1 ∉ S):RunsAt h' nb l:=fun x hx=>
 ⟨(k x hx).1.tch t (k x hx).2.1 (hd x hx),Nat.lt_of_lt_of_le (k x hx).2.1 t.1,(k x hx).2.2⟩
def VAt(h:AHeap)(v:AV)(A:List AV)(m:Nat):Prop:=(v=.nsl∧A=[]∧m=0)∨∃c rest,v=.sl c 0 m 2∧A.length=2*m∧RowH h c z20c (A++rest)∧c<h.next
def zd6:AV→List Nat
 | .sl c _ _ _=>[c]
 |_=>[]
theorem VAt.tch{S:List Nat}{h h':AHeap}{v:AV}{A:List AV}{m:Nat}(k:VAt h v A m)(t:Tch S h h')(hd:∀b∈zd6 v,b ∉ S):VAt h' v A m:=by
 rcases k with k|⟨c,rest,rfl,h1,h2,h3⟩
 ·exact .inl k
 ·exact .inr ⟨c,rest,rfl,h1,h2.tch t h3 (hd c (List.mem_singleton.2 rfl)),Nat.lt_of_lt_of_le h3 t.1⟩
theorem VAt.one{h:AHeap}{v:AV}{A:List AV}{m:Nat}(k:VAt h v A m):v.one=true∧AV.cells v=[v]:=by
 rcases k with⟨rfl,_⟩|⟨c,rest,rfl,_⟩<;>exact⟨rfl,rfl⟩
theorem VAt.lt{h:AHeap}{v:AV}{A:List AV}{m:Nat}(k:VAt h v A m):∀b∈zd6 v,b<h.next:=by
 rcases k with⟨rfl,_⟩|⟨c,rest,rfl,_,_,h3⟩
 ·exact fun b hb=>nomatch hb
 ·intro b hb
  rw[List.mem_singleton.1 hb];exact h3
theorem fitWay:fitB Tryd.prog z20c 16=true:=by kernel_rfl
theorem VAt.push{h:AHeap}{v:AV}{A r:List AV}{m b1:Nat}(k:VAt h v A m)(kr:RowH h b1 z20c r)(hr:r.length=2)(hr1:r.all AV.one=true)(hm:m<20000000)(hx:zbb z20c h.ex=false):
  ∃h',z7e Tryd.prog h z1a9 z1a9 v (.sl b1 0 1 2)=some (.val (.sl h.next 0 (m+1) 2),h')∧RowH h' h.next z20c (A++r)∧h.next<h'.next∧Tch (zd6 v) h h':=by
 have he:Abs.elemOf Tryd.prog z1a9=some z20c:=by kernel_rfl
 have hu:z26c Tryd.prog z1a9=true:=by kernel_rfl
 have hsz:Tryd.prog.cellsOf z20c=2:=by kernel_rfl
 rcases k with⟨rfl,rfl,rfl⟩|⟨c,rest,rfl,h1,h2,h3⟩
 ·have a1 := z266 (P := Tryd.prog) (h := h) (t := z1a9) (u := z1a9) (n := 0) (x := .sl b1 0 1 2) he hu hsz rfl (z1c3 kr hr) (z11f fitWay (by omega) (by omega)) hr1 hx
  exact⟨_,a1,RowH.new _ _ _,Nat.lt_succ_self _,Tch.newH _ _ _ _⟩
 ·have a1 := z20b (P := Tryd.prog) (h := h) (t := z1a9) (u := z1a9) (b := c) (o := 0) (m := m) (n := 0) (x := .sl b1 0 1 2) (cs := A) he hu hsz rfl (z1c3 kr hr) (z11f fitWay (by omega) (by omega)) hr1 hx (by
   have:=h2.part (o:=0) (n:=A.length) (by rw[List.length_append];omega);rw[List.drop_zero,List.take_left' rfl] at this;rw[show m*2=A.length by omega];exact this) h2.type
  refine⟨_,a1,RowH.new (h.put c .dead) z20c (A++r),Nat.lt_succ_self _,?_⟩;exact(Tch.put (S:=[c]) (.inl (List.mem_singleton.2 rfl)) _).trans (Tch.newH _ _ _ _)
theorem z40d{P:Program}{h:AHeap}{t e:TypeId}{b m sz k:Nat}{k1:IntKind}(he:Abs.elemOf P t=some e)(hi:(P.info? e).isSome=true)(hsz:P.cellsOf e=sz)(h1:k≤m):
  zb4 P h t (.sl b 0 m sz) none (some (.int k1 (k:Int)))=some (.val (.sl b 0 k sz),h):=by
 have b1:z9c (some (AV.int k1 (k:Int))) m=some k:=rfl;have b2:z9c none 0=some 0:=rfl;simp only[zb4,z180,b1,b2,he];rw[if_pos ⟨Nat.ble_eq_true_of_le (Nat.zero_le k),Nat.ble_eq_true_of_le h1,hsz.symm,hi⟩,if_neg (fun hc=>by have:=Nat.le_of_ble_eq_true hc.2;omega),Nat.zero_mul,Nat.add_zero,Nat.sub_zero]
noncomputable def z20d:Nat→List AV
 |0=>[]
 |m+1=>[.nilp,.int .i64 0]++z20d m
theorem z242:∀m,(z20d m).length=2*m
 |0=>rfl
 |m+1=>by
  have:=z242 m;rw[z20d,List.length_append,this];show 2+_=_;omega
theorem z2f8:∀m,(z20d m).all AV.one=true
 |0=>rfl
 |m+1=>by
  rw[z20d,List.all_append,z2f8 m];rfl
theorem z2f7:∀m,(List.replicate m [AV.nilp,.int .i64 0]).flatten=z20d m
 |0=>rfl
 |m+1=>by rw[List.replicate_succ,List.flatten_cons,z2f7 m,z20d]
theorem clear_sl{h:AHeap}{c j m:Nat}{l:List AV}(k:RowH h c z20c l)(hl:2*j+2*m≤l.length):∃h',z1b5 Tryd.prog h z1a9 (.sl c (2*j) m 2)=some (.val (.tup []),h')∧RowH h' c z20c (laid l (2*j) (z20d m))∧h'.next=h.next∧Tch [c] h h':=by
 obtain⟨h',e1,e2,e3,e4,e5⟩:=k.put (vs:=z20d m) (o:=2*j) (by rw[z242];omega) (z2f8 m);refine⟨h',?_,e2,e3,z2fc e3 e4 e5 (.inl (List.mem_singleton.2 rfl))⟩;have he:Abs.elemOf Tryd.prog z1a9=some z20c:=by kernel_rfl
 have hz:(z19d Tryd.prog z20c).map AV.cells=some [.nilp,.int .i64 0]:=by kernel_rfl
 have hsz:2=Tryd.prog.cellsOf z20c:=by kernel_rfl
 obtain⟨z,hz1,hz2⟩:=Option.map_eq_some_iff.1 hz;unfold z1b5;rw[he];dsimp only;rw[hz1];dsimp only;rw[if_pos hsz,hz2,z2f7,e1]
section
variable {n d ab o m live:Nat}{h:AHeap}{cells A:List AV}{v:AV}
theorem z264(ka:RowH h ab z3c1 cells)(hv:cells[o+1]? =some v)(hab:ab<h.next)(k:VAt h v A m)(hl:live≤m)(hd:ab ∉ zd6 v):
  ∃v' h',world n (d+1) 53 [.ptr ab o,.int .i64 (live:Int)] h=some (.ret (.tup []),h')∧RowH h' ab z3c1 (cells.set (o+1) v')∧VAt h' v' (A.take (2*live)) live∧zd6 v'=zd6 v∧h'.next=h.next∧Tch (ab::zd6 v) h h':=by
 have hlen:o+1<cells.length:=by
  apply Nat.lt_of_not_le;intro hh;rw[List.getElem?_eq_none hh] at hv;cases hv
 suffices hK:Wp (world n (d+1) 53 [.ptr ab o,.int .i64 (live:Int)] h) fun r h'=>∃v',r=.ret (.tup [])∧RowH h' ab z3c1 (cells.set (o+1) v')∧VAt h' v' (A.take (2*live)) live∧zd6 v'=zd6 v∧h'.next=h.next∧Tch (ab::zd6 v) h h' by
  obtain⟨_,h',e,v',rfl,k⟩:=hK;exact⟨v',h',e,k⟩
 rw[z27f];unfold zc0;have cv:=y5 ka hv
 rcases k with⟨rfl,rfl,rfl⟩|⟨c,rest,rfl,h1,h2,h3⟩
 ·obtain rfl : live = 0 := by omega
  have s1:zb4 Tryd.prog h z1a9 .nsl (some (.int .i64 ((0:Nat):Int))) none=some (.val .nsl,h):=by kernel_rfl
  have s2:z1b5 Tryd.prog h z1a9 .nsl=some (.val (.tup []),h):=by kernel_rfl
  have s3:zb4 Tryd.prog h z1a9 .nsl none (some (.int .i64 ((0:Nat):Int)))=some (.val .nsl,h):=by kernel_rfl
  repeat(with_reducible first|(apply Wp.obind;first|exact z10 _ _|exact cv|exact z8 _ _ _)|(apply Wp.outK;first|exact s1|exact s2|exact s3))
  refine Wp.st1 ka hlen rfl fun h4 k4 t4 n4=>?_;exact Wp.ret ⟨.nsl,rfl,k4,.inl ⟨rfl,List.take_nil,rfl⟩,rfl,n4,t4⟩
 ·have he : Abs.elemOf Tryd.prog z1a9 = some z20c := by kernel_rfl
  have hi:(Tryd.prog.info? z20c).isSome=true:=by kernel_rfl
  have hsz:Tryd.prog.cellsOf z20c=2:=by kernel_rfl
  have hne:ab≠c:=fun e=>hd (e▸List.mem_singleton.2 rfl)
  have fin:∀{h2:AHeap} {l2:List AV},RowH h2 c z20c l2→l2.take (2*live)=A.take (2*live)→2*live≤l2.length→h2.next=h.next→Tch [c] h h2→Wp (Abs.obind (z74 (.ptr ab o)) fun t12=>Abs.obind (z49 1 t12) fun t13=>Abs.obind (z7 h2 t13) fun v14=>Abs.outK (zb4 Tryd.prog h2 z1a9 v14 none (some (.int .i64 (live:Int)))) fun v16 h_12=>Abs.obind (z74 (.ptr ab o)) fun t17=>Abs.obind (z49 1 t17) fun t18=>Abs.obind (z15 h_12 1 (AV.cells v16) t18) fun h_16=>some (.ret (.tup []),h_16)) fun r h'=>∃v',r=.ret (.tup [])∧RowH h' ab z3c1 (cells.set (o+1) v')∧VAt h' v' (A.take (2*live)) live∧zd6 v'=zd6 (.sl c 0 m 2)∧h'.next=h.next∧Tch (ab::zd6 (.sl c 0 m 2)) h h':=by
   intro h2 l2 k2 e2 hl2 n2 t2;have ka2:=ka.tch t2 hab (by simpa using hne);have cv2:=y5 ka2 hv;have s3:=z40d (P:=Tryd.prog) (h:=h2) (b:=c) (k1:=.i64) he hi hsz hl
   repeat(with_reducible first|(apply Wp.obind;first|exact z10 _ _|exact cv2|exact z8 _ _ _)|(apply Wp.outK;exact s3))
   refine Wp.st1 ka2 hlen rfl fun h4 k4 t4 n4=>?_;refine Wp.ret ⟨.sl c 0 live 2,rfl,k4,.inr ⟨c,l2.drop (2*live),rfl,?_,?_,?_⟩,rfl,n4.trans n2,?_⟩
   ·rw [← e2, List.length_take]
    omega
   ·rw [← e2, List.take_append_drop]
    exact k2.tch t4 (by rw[n2];exact h3) (by simpa using hne.symm)
   ·rw [n4, n2]
    exact h3
   ·exact(t2.mono (fun b hb=>.inl (List.mem_cons_of_mem _ hb))).trans (t4.mono (fun b hb=>.inl (by rw[List.mem_singleton.1 hb];exact List.mem_cons_self)))
  by_cases hlm:live=m∧0<live
  ·obtain ⟨rfl, h0⟩ := hlm
   have s1:=z377 (P:=Tryd.prog) (h:=h) (b:=c) (o:=0) (k1:=.i64) he hi hsz h0;have s2:z1b5 Tryd.prog h z1a9 .esl=some (.val (.tup []),h):=by kernel_rfl
   refine Wp.obind (z10 _ _) (Wp.obind (z8 _ _ _) (Wp.obind cv (Wp.outK s1 (Wp.outK s2 ?_))));exact fin h2 (by rw[List.take_append_of_le_length (by omega)]) (by rw[List.length_append];omega) rfl (Tch.refl _ _)
  ·have s1 := z24b (P := Tryd.prog) (h := h) (b := c) (o := 0) (m := m) (l1 := live) (k1 := .i64) he hi hsz hl hlm
   rw[show 0+live*2=2*live by omega] at s1;obtain⟨h5,s2,k5,n5,t5⟩:=clear_sl (j:=live) (m:=m - live) h2 (by rw[List.length_append];omega);refine Wp.obind (z10 _ _) (Wp.obind (z8 _ _ _) (Wp.obind cv (Wp.outK s1 (Wp.outK s2 ?_))));have hll:2*live≤(A++rest).length:=by rw[List.length_append];omega
   refine fin k5 ?_ ?_ n5 t5
   ·unfold laid
    rw[List.append_assoc,List.take_append_of_le_length (by rw[List.length_take];omega),List.take_take,Nat.min_self,List.take_append_of_le_length (by omega)]
   ·rw [z11d (by rw [z242, List.length_append]; omega)]
    exact hll
end
def z484(N:Nt)(c:Nat)(x:z19b):z19b:=(x.1,stepN N x.2.1 c,x.2.2)
def za9(N:Nt)(c:Nat):List z19b→List z19b
 |[]=>[]
 |x::l=>if z16d N (stepN N x.2.1 c)=true then za9 N c l else z484 N c x::za9 N c l
def accX(N:Nt)(c:Nat):Option Nat→z19b→Option Nat
 |some f,_=>some f
 |none,x=>if z12b N (stepN N x.2.1 c)=true then some x.2.2 else none
def z366(N:Nt)(c:Nat)(a:Option Nat)(l:List z19b):Option Nat:=l.foldl (accX N c) a
theorem z445{N:Nt}{c:Nat}{a:Option Nat}{x:z19b}(h:z12b N (stepN N x.2.1 c)=false):accX N c a x=a:=by
 cases a with
 |some f=>rfl
 |none=>
  show (if z12b N (stepN N x.2.1 c)=true then some x.2.2 else none)=none;rw[if_neg (by rw[h];decide)]
theorem accX_done{N:Nt}{c:Nat}{x:z19b}(h:z12b N (stepN N x.2.1 c)=true):accX N c none x=some x.2.2:=by
 show (if z12b N (stepN N x.2.1 c)=true then some x.2.2 else none)=_;rw[if_pos h]
def z45b(a:Option Nat):Int:=match a with
 |some f=>(f:Int)
 |none=>0
def InLoop(h0 H:AHeap)(nb c i:Nat)(S:List Nat)(kept todo:List z19b)(G:List AV):Prop:=kept.length≤i∧G.length=2*(i - kept.length)∧RowH H c z20c (z9a kept++(G++z9a todo))∧RunsAt H nb kept∧RunsAt H nb todo∧((kept++todo).map (·.1)).Nodup∧(∀x∈kept++todo,x.1∈S)∧Tch (c::S) h0 H
section
variable {h0 H H1 H2:AHeap}{nb c i byte:Nat}{S:List Nat}{kept todo:List z19b}{G:List AV}{x:z19b}{N:Nt}
theorem InLoop.apart(k:InLoop h0 H nb c i S kept (x::todo) G):(∀y∈kept,y.1≠x.1)∧∀y∈todo,y.1≠x.1:=by
 have h:=k.2.2.2.2.2.1;rw[List.map_append,List.nodup_append,List.map_cons,List.nodup_cons] at h;obtain⟨_,⟨h2,_⟩,h3⟩:=h;exact⟨fun y hy e=>h3 y.1 (List.mem_map_of_mem hy) x.1 List.mem_cons_self e,fun y hy e=>h2 (e▸List.mem_map_of_mem hy)⟩
theorem InLoop.skip(k:InLoop h0 H nb c i S kept (x::todo) G)(hcS:c ∉ S)(hc:c<h0.next)(t:Tch [x.1] H H1):InLoop h0 H1 nb c (i+1) S kept todo (G++z2fb x):=by
 obtain⟨a1,a2⟩:=k.apart;obtain⟨k1,k2,k3,k4,k5,k6,k7,k8⟩:=k;have hxS:x.1∈S:=k7 x (by simp);have hcx:c≠x.1:=fun e=>hcS (e▸hxS);refine⟨by omega,?_,?_,k4.tch t (fun y hy=>by simpa using a1 y hy),?_,?_,fun y hy=>k7 y ?_,?_⟩
 ·rw [List.length_append, k2]
  show _+2=_;omega
 ·have := k3.tch t (Nat.lt_of_lt_of_le hc k8.1) (by simpa using hcx)
  rw[z9a, ←List.append_assoc G] at this;exact this
 ·exact RunsAt.tch (fun y hy=>k5 y (List.mem_cons_of_mem _ hy)) t (fun y hy=>by simpa using a2 y hy)
 ·rw [List.map_append, List.map_cons] at k6
  rw[List.map_append];exact k6.sublist (List.Sublist.append_left (List.sublist_cons_self _ _) _)
 ·rcases List.mem_append.1 hy with hy | hy
  ·exact List.mem_append_left _ hy
  ·exact List.mem_append_right _ (List.mem_cons_of_mem _ hy)
 ·exact k8.trans (t.mono fun b hb=>.inl (by rw[List.mem_singleton.1 hb];exact List.mem_cons_of_mem _ hxS))
theorem laid_way{T:List AV}(hG:G.length=2*(i - kept.length)):laid (z9a kept++(G++(z2fb x++T))) (2*kept.length) (z2fb x)=z9a (kept++[x])++((G++z2fb x).drop 2++T):=by
 have hw:(z2fb x).length=2:=rfl;have hl:=z9d kept;unfold laid;rw[List.take_left' hl,z170,hw, ←hl,List.drop_append,List.drop_of_length_le (Nat.le_add_right _ _),Nat.add_sub_cancel_left,List.nil_append, ←List.append_assoc G,List.drop_append_of_le_length (by rw[List.length_append,hw];omega)];show _=z9a kept++(z2fb x++[])++_;rw[List.append_nil]
theorem InLoop.keep(k:InLoop h0 H nb c i S kept (x::todo) G)(hcS:c ∉ S)(hc:c<h0.next)(t:Tch [x.1] H H1)(kr:RowH H1 x.1 z476 (z478 nb (stepN N x.2.1 byte)))(hs:(stepN N x.2.1 byte).2 <18446744073709551616)(k2:RowH H2 c z20c (laid (z9a kept++((G++z2fb x)++z9a todo)) (2*kept.length) (z2fb x)))(t2:Tch [c] H1 H2):
  InLoop h0 H2 nb c (i+1) S (kept++[z484 N byte x]) todo ((G++z2fb x).drop 2):=by
 have hxS:x.1∈S:=k.2.2.2.2.2.2.1 x (by simp);have hcx:c≠x.1:=fun e=>hcS (e▸hxS);have hlt:=(k.2.2.2.2.1 x List.mem_cons_self).2.1;have hxl:x.1<H1.next:=Nat.lt_of_lt_of_le hlt t.1;have k6:=k.2.2.2.2.2.1;have k7:=k.2.2.2.2.2.2.1;have hG:=k.2.1;have j:=k.skip hcS hc t;obtain⟨j1,j2,j3,j4,j5,j6,j7,j8⟩:=j;have hk:=k.1;have cne:∀y∈kept++todo,y.1 ∉ [c]:=fun y hy e=>hcS (List.mem_singleton.1 e▸j7 y hy);refine⟨by rw[List.length_append,List.length_singleton];omega,?_,?_,fun y hy=>?_,j5.tch t2 (fun y hy=>cne y (List.mem_append_right _ hy)),?_,fun y hy=>?_,j8.trans (t2.mono fun b hb=>.inl (by rw[List.mem_singleton.1 hb];exact List.mem_cons_self))⟩
 ·rw [List.length_drop, List.length_append, hG, List.length_append, List.length_singleton]
  show _+2 - 2=_;omega
 ·rw [List.append_assoc G, laid_way (i := i) hG, z170] at k2
  rw[z170];exact k2
 ·rcases List.mem_append.1 hy with hy | hy
  ·exact j4.tch t2 (fun y hy=>cne y (List.mem_append_left _ hy)) y hy
  ·rw [List.mem_singleton.1 hy]
   exact⟨kr.tch t2 hxl (by simpa using hcx.symm),Nat.lt_of_lt_of_le hxl t2.1,hs⟩
 ·rw [List.append_assoc, List.map_append] at *
  exact k6
 ·refine (?_ : ∀ y ∈ kept ++ [z484 N byte x] ++ todo, y.1 ∈ S) y hy
  intro y hy
  rcases List.mem_append.1 hy with hy|hy
  ·rcases List.mem_append.1 hy with hy | hy
   ·exact k7 y (List.mem_append_left _ hy)
   ·rw [List.mem_singleton.1 hy]
    exact hxS
  ·exact k7 y (List.mem_append_right _ (List.mem_cons_of_mem _ hy))
end
theorem y1a{α:Type}{a:α}{K:α→R}{Q:ARes→AHeap→Prop}(hk:∀x,x=a→Wp (K x) Q):Wp (Abs.lett a K) Q:=hk a rfl
theorem z324{N:Nt}{st:Bool×Nat}(h:z16d N st=true):z12b N st=false:=by
 cases hd:z12b N st with
 |false=>rfl
 |true=>
  rw[done_live hd] at h;cases h
theorem z25e{b m i:Nat}(h:i<m):z1a8 2 (.sl b 0 m 2) (i:Int)=some (.ptr b (0+i*2)):=by
 have e:Nat.blt i m=true:=by simpa using h
 show (match Nat.blt i m with|true=>some (AV.ptr b (0+i*2))|false=>none)=_;rw[e]
theorem z246{h:AHeap}{b:Nat}{e:TypeId}{l:List AV}(hT:HasTz h)(k:RowH h b e l):0≠b:=by
 intro hb;subst hb;obtain⟨t,h1,_⟩:=k;rw[hT.1] at h1;cases h1
section
variable {N:Nt}{n d nb ab o c L byte:Nat}{h0:AHeap}{S:List Nat}{cells:List AV}{Q:ARes→AHeap→Prop}{k30:Int→Bool→Int→AHeap→R}
theorem z441(hT:HasTz h0)(hN:NtOk N)(hn:18446744073709551616<n)(hb:byte<256)(hL:L<20000000)(kn:RowH h0 nb TNet (netC N))(hnb:nb<h0.next)(hnS:nb ∉ S)(hnc:nb≠c)(ka:RowH h0 ab z3c1 cells)(hab:ab<h0.next)(haS:ab ∉ S)(hac:ab≠c)(hv:cells[o+1]? =some (.sl c 0 L 2))(hcS:c ∉ S)(hc:c<h0.next)(hTS:0 ∉ c::S):
  ∀(todo:List z19b) (i fu:Nat) (kept:List z19b) (G:List AV) (a:Option Nat) (H:AHeap),todo.length<fu→i+todo.length=L→(∀x∈todo,x.2.2<1000000000000)→InLoop h0 H nb c i S kept todo G→
   (∀(H':AHeap) (G':List AV),InLoop h0 H' nb c L S (kept++za9 N byte todo) [] G'→Wp (k30 (z45b (z366 N byte a todo)) (z366 N byte a todo).isSome ((kept++za9 N byte todo).length:Int) H') Q)→
   Wp (z82 (world n (d+3)) (.ptr ab o) (byte:Int) (.sl c 0 L 2) (L:Int) k30 fu (z45b a) a.isSome (kept.length:Int) (i:Int) H) Q
 |_,_,0,_,_,_,_,hf,_,_,_,_=>by omega
 |[],i,fu+1,kept,G,a,H,hf,hi,hx,k,hk=>by
  rw[zf7];unfold z97;have hiL:i=L:=hi;subst hiL
  ((with_reducible refine Wp.lett ?_))
  refine y6 (by rw[decide_eq_false_iff_not];omega) ?_;have:=hk H G (by rw[za9,List.append_nil];exact k);rw[za9,List.append_nil] at this;exact this
 |x::todo,i,fu+1,kept,G,a,H,hf,hi,hx,k,hk=>by
  rw[List.length_cons] at hf hi;have hiL:i<L:=by omega
  have el:(i:Int)+1=((i+1:Nat):Int):=by omega
  obtain⟨k1,k2,k3,k4,k5,k6,k7,k8⟩:=id k;have hxS:x.1∈S:=k7 x (by simp);obtain⟨hx1,hx2,hx3⟩:=k5 x List.mem_cons_self;have hfr:=hx x List.mem_cons_self;have w1:=z25e (b:=c) hiL;have hcH:c<H.next:=Nat.lt_of_lt_of_le hc k8.1
  have w2:z16 H 2 (.ptr c (0+i*2))=some (z2fb x):=by
   have:=k3.ld (o:=0+i*2) (n:=2) (by rw[List.length_append,List.length_append,z9d,z9d,List.length_cons];omega);rw[this]
   congr 1
   rw[←List.append_assoc,z9a,List.drop_left' (by rw[List.length_append,z9d];omega)];exact List.take_left' rfl
  have knH:=kn.tch k8 hnb (by simp[hnS,hnc]);have kaH:=ka.tch k8 hab (by simp[haS,hac]);have hTH:=hT.tch k8 hTS;have hne:x.1≠nb:=fun e=>hnS (e▸hxS);have hxc:x.1≠c:=fun e=>hcS (e▸hxS);have hxa:x.1≠ab:=fun e=>haS (e▸hxS);rw[zf7];unfold z97
  ((with_reducible refine Wp.lett ?_))
  refine y7 (by rw[decide_eq_true_eq];omega) ?_;refine y1a fun k46 ek46=>?_;have M0:=Mem.nil [] H;refine Wp.obind w1 ?_;refine Wp.obind w2 ?_;refine y9 M0 fun h55 M1=>?_;rw[ze];refine y10 M1 rfl rfl rfl fun h57 M2=>?_;have t57:=M2.tch;have p0:=M2.at0.1;have p1:=M2.at0.2.1;refine Wp.obind (y5 p0 (show (z2fb x)[0]? =some (.ptr x.1 0) from rfl)) ?_;have hx57:=hx1.tch t57 hx2 (by simp);obtain⟨h61,e61,kr,t61⟩:=step_r (n:=n) (d:=d) (hTH.tch t57 (by simp)) hN hx3 hn hne hb hx57 (knH.tch t57 (Nat.lt_of_lt_of_le hnb k8.1) (by simp)) (Nat.lt_of_lt_of_le (Nat.lt_of_lt_of_le hnb k8.1) t57.1);refine Wp.callN e61 ?_;have hpx:H.next≠x.1:=by omega
  have q0:=p0.tch t61 p1 (by simpa using hpx);have tA:Tch [x.1] H h61:=(t57.mono (fun b hb=>nomatch hb)).trans t61;have kn61:=(knH.tch tA (Nat.lt_of_lt_of_le hnb k8.1) (by simpa using hne.symm));have hsm:=z2fe hN x.2.1 byte;refine Wp.obind (y5 q0 (show (z2fb x)[0]? =some (.ptr x.1 0) from rfl)) ?_;refine Wp.callN (dead_w (n:=n) (d:=d+1) kr kn61) ?_;refine Wp.obind (z5 _) ?_;have nx:=fun kept G a H'=>z441 hT hN hn hb hL kn hnb hnS hnc ka hab haS hac hv hcS hc hTS todo (i+1) fu kept G a H' (by omega) (by omega) (fun y hy=>hx y (List.mem_cons_of_mem _ hy));cases hd:z16d N (stepN N x.2.1 byte) with
  |true=>
   refine y7 rfl ?_;rw[ek46]
   repeat(((with_reducible refine ye ?_ ?_ ?_);omega;omega))
   rw[el];have hdn:=z324 hd;refine nx kept _ a h61 (k.skip hcS hc tA) fun H' G' k'=>?_;have:=hk H' G';rw[za9,if_pos hd,show z366 N byte a (x::todo)=z366 N byte a todo from congrArg (fun z=>z366 N byte z todo) (z445 hdn)] at this;exact this k'
  |false=>
   refine y6 rfl ?_;refine Wp.obind (y5 q0 (show (z2fb x)[0]? =some (.ptr x.1 0) from rfl)) ?_;refine Wp.callN (done_w (n:=n) (d:=d+1) hN hsm kr kn61) ?_;refine Wp.obind (z5 _) ?_;have kc61:=k3.tch tA hcH (by simpa using hxc.symm);have ka61:=kaH.tch tA (Nat.lt_of_lt_of_le hab k8.1) (by simpa using hxa.symm);have cv:=y5 ka61 hv;have w3:z1a8 2 (.sl c 0 L 2) (kept.length:Int)=some (.ptr c (0+kept.length*2)):=z25e (by omega);have w4:z16 h61 2 (.ptr H.next 0)=some (z2fb x):=y12 q0 rfl;have w5:Abs.avInt .i64 (.int .i64 (x.2.2:Int))=some (x.2.2:Int):=z4 _ _;have w6:=y5 q0 (show (z2fb x)[1]? =some (.int .i64 (x.2.2:Int)) from rfl);have elk:(kept.length:Int)+1=((kept.length+1:Nat):Int):=by omega
   have fin:∀(a':Option Nat) (h88:AHeap),z366 N byte a (x::todo)=z366 N byte a' todo→RowH h88 c z20c (laid (z9a kept++(G++z9a (x::todo))) (0+kept.length*2) (z2fb x))→Tch [c] h61 h88→Wp (z82 (world n (d+3)) (.ptr ab o) (byte:Int) (.sl c 0 L 2) (L:Int) k30 fu (z45b a') a'.isSome ((kept.length+1:Nat):Int) ((i+1:Nat):Int) h88) Q:=by
    intro a' h88 ha k88 t88
    have kk:=k.keep (N:=N) (byte:=byte) hcS hc tA kr hsm (by
     rw[show 0+kept.length*2=2*kept.length by omega,z9a, ←List.append_assoc G] at k88;exact k88) t88
    have:=nx _ _ a' h88 kk fun H' G' k'=>(by
     have:=hk H' G';rw[za9,if_neg (by rw[hd];decide),ha] at this;rw[List.append_assoc] at k' ⊢;exact this k')
    rw[List.length_append] at this;exact this
   have st:∀(a':Option Nat),z366 N byte a (x::todo)=z366 N byte a' todo→Wp (Abs.obind (z15 h61 2 (z2fb x) (.ptr c (0+kept.length*2))) fun h_88=>Abs.lett (IntKind.i64.wrap ((kept.length:Int)+1)) fun (t60:Int)=>k46 (z45b a') a'.isSome t60 h_88) Q:=by
    intro a' ha;refine Wp.stN kc61 rfl (by rw[List.length_append,List.length_append,z9d,z9d,List.length_cons];omega) rfl fun h88 k88 t88 n88=>?_;rw[ek46]
    repeat(((with_reducible refine ye ?_ ?_ ?_);omega;omega))
    rw[el,elk];exact fin a' h88 ha k88 t88
   cases hdo:z12b N (stepN N x.2.1 byte) with
   |false=>
    repeat(with_reducible first|(first|refine y8 (fun _ _=>?_)|refine y54 (fun _ _=>?_))|(apply Wp.obind;first|exact z10 _ _|exact cv|exact w4|exact w3|exact z8 _ _ _)|(refine y6 ?_ ?_;rfl)|(first|refine yd (by assumption) ?_|refine Wp.go2 (by assumption) ?_))
    exact st a (congrArg (fun z=>z366 N byte z todo) (z445 hdo))
   |true=>
    cases a with
    |some f=>
     have b1:(!(some f).isSome)=false:=rfl
     repeat(with_reducible first|(first|refine y8 (fun _ _=>?_)|refine y54 (fun _ _=>?_))|refine Wp.lett ?_|(apply Wp.obind;first|exact z10 _ _|exact cv|exact w4|exact w3|exact z8 _ _ _)|(refine y7 ?_ ?_;rfl)|(refine y6 ?_ ?_;assumption)|(first|refine yd (by assumption) ?_|refine Wp.go2 (by assumption) ?_))
     exact st (some f) rfl
    |none=>
     have b1:(!(none:Option Nat).isSome)=true:=rfl
     repeat(with_reducible first|(first|refine y8 (fun _ _=>?_)|refine y54 (fun _ _=>?_))|refine Wp.lett ?_|(apply Wp.obind;first|exact w6|exact z10 _ _|exact cv|exact w4|exact w3|exact z4 _ _|exact z8 _ _ _)|(refine y7 ?_ ?_;first|rfl|assumption)|(first|refine yd (by assumption) ?_|refine Wp.go2 (by assumption) ?_))
     exact st (some x.2.2) (congrArg (fun z=>z366 N byte z todo) (accX_done hdo))
end
theorem bldWay(b:Nat)(z:Int):z2d3 Tryd.prog z20c [(0,.ptr b 0),(1,.int .i64 z)]=some [.ptr b 0,.int .i64 z]:=by kernel_rfl
theorem bldSlWay(h:AHeap)(b:Nat)(z:Int):z16e Tryd.prog h z1a9 1 [(0,.agg [.ptr b 0,.int .i64 z])]=zcb h z20c [.ptr b 0,.int .i64 z] 1 2:=by kernel_rfl
structure ArmAt (h:AHeap) (ab o nb:Nat) (N:Nt) (cells:List AV) (v:AV) (l:List z19b):Prop where
 row:RowH h ab z3c1 cells
 hab:ab<h.next
 net:cells[o]? =some (.ptr nb 0)
 val:cells[o+1]? =some v
 sl:VAt h v (z9a l) l.length
 runs:RunsAt h nb l
 kn:RowH h nb TNet (netC N)
 hnb:nb<h.next
 nd:(l.map (·.1)).Nodup
 apart:∀b∈zd6 v,b ∉ l.map (·.1)
 ab1:ab ∉ zd6 v
 ab2:ab ∉ l.map (·.1)
 nb1:nb ∉ zd6 v
 nb2:nb ∉ l.map (·.1)
theorem z22e{N:Nt}{c:Nat}:∀{l:List z19b} {y:z19b},y∈za9 N c l→∃x∈l,y=z484 N c x
 |[],_,h=>nomatch h
 |x::l,y,h=>by
  rw[za9] at h
  split at h
  ·obtain ⟨z, hz, e⟩ := z22e h
   exact⟨z,List.mem_cons_of_mem _ hz,e⟩
  ·rcases List.mem_cons.1 h with rfl | h
   ·exact⟨x,List.mem_cons_self,rfl⟩
   ·obtain ⟨z, hz, e⟩ := z22e h
    exact⟨z,List.mem_cons_of_mem _ hz,e⟩
section
variable {N:Nt}{n d nb ab o byte at_:Nat}{h:AHeap}{cells:List AV}{v:AV}{l:List z19b}
theorem z470(hT:HasTz h)(hN:NtOk N)(hn:18446744073709551616<n)(hb:byte<256)(k:ArmAt h ab o nb N cells v l)(hne:ab≠nb)(hl:l.length<4000000)(hx:∀x∈l,x.2.2<1000000000000)(ha:at_<1000000000000)(hex:zbb z20c h.ex=false):
  ∃v' h',world n (d+4) 45 [.ptr ab o,.int .u8 (byte:Int),.int .i64 (at_:Int)] h=some (.ret (.tup [.int .i64 (z45b (z366 N byte none (l++[(h.next,(false,0),at_)]))),.bool (z366 N byte none (l++[(h.next,(false,0),at_)])).isSome]),h')∧
   ArmAt h' ab o nb N (cells.set (o+1) v') v' (za9 N byte (l++[(h.next,(false,0),at_)]))∧((∀b∈zd6 v',h.next≤b)∧zd6 v'≠[])∧Tch (ab::(zd6 v++l.map (·.1))) h h':=by
 obtain⟨k1,k2,k3,k4,k5,k6,k7,k8,k9,k10,k11,k12,k13,k14⟩:=id k
 have hlen:o+1<cells.length:=by
  apply Nat.lt_of_not_le;intro hh;rw[List.getElem?_eq_none hh] at k4
  cases k4
 suffices hK:Wp (world n (d+4) 45 [.ptr ab o,.int .u8 (byte:Int),.int .i64 (at_:Int)] h) fun r h'=>∃v',r=.ret (.tup [.int .i64 (z45b (z366 N byte none (l++[(h.next,(false,0),at_)]))),.bool (z366 N byte none (l++[(h.next,(false,0),at_)])).isSome])∧ArmAt h' ab o nb N (cells.set (o+1) v') v' (za9 N byte (l++[(h.next,(false,0),at_)]))∧((∀b∈zd6 v',h.next≤b)∧zd6 v'≠[])∧Tch (ab::(zd6 v++l.map (·.1))) h h' by
  obtain⟨_,h',e,v',rfl,k⟩:=hK;exact⟨v',h',e,k⟩
 rw[z27e];unfold zbf;have c1:=y5 k1 k4;have c2:=y5 k1 k3;obtain⟨h1,e1,M1⟩:=begin_m (n:=n) (d:=d+2) (nb:=nb) (Mem.nil [] h);refine Wp.obind (z10 _ _) (Wp.obind (z8 _ _ _) (Wp.obind c1 (Wp.obind (z10 _ _) (Wp.obind (z8 _ _ _) (Wp.obind c2 (Wp.callN e1 ?_))))));have t1:=M1.tch;have ka1:=k1.tch t1 k2 (by simp);refine Wp.chk (z267 rfl (z267 (z33c (by kernel_rfl) (y5 ka1 k4)) rfl)) ?_;refine Wp.obind (bldWay _ _) ?_;refine y32 M1 (bldSlWay _ _ _) rfl hex fun h2 M2=>?_;have t2:=M2.tch;have ka2:=k1.tch t2 k2 (by simp);refine Wp.chk (z267 rfl (z267 (z33c (by kernel_rfl) (y5 ka2 k4)) rfl)) ?_;have kv2:=k5.tch t2 (fun b _=>by simp);obtain⟨h3,e3,kc3,hc3,t3⟩:=kv2.push M2.at0.1 rfl rfl (by omega) (by rw[M2.ex];exact hex);refine Wp.outK e3 ?_;have hle2:=t2.1;have hlab:ab<h2.next:=Nat.lt_of_lt_of_le k2 hle2;have ka3:=ka2.tch t3 hlab k11;refine Wp.obind (z10 _ _) (Wp.obind (z8 _ _ _) ?_);show Wp (Abs.obind (z15 h3 1 [AV.sl h2.next 0 (l.length+1) 2] (.ptr ab (o+1))) _) _;refine Wp.st1 ka3 hlen rfl fun h4 ka4 t4 n4=>?_;have hv4:(cells.set (o+1) (.sl h2.next 0 (l.length+1) 2))[o+1]? =some (.sl h2.next 0 (l.length+1) 2):=List.getElem?_set_self hlen;refine Wp.obind (z10 _ _) (Wp.obind (z8 _ _ _) (Wp.obind (y5 ka4 hv4) ?_));refine Wp.obind (show z17d (.sl h2.next 0 (l.length+1) 2)=some ((l.length+1:Nat):Int) from rfl) ?_;refine y1a fun k30 ek30=>?_;have hle3:=t3.1;have hids:∀x∈l,x.1<h.next:=fun x hx=>(k6 x hx).2.1
 have hidm:∀b∈l.map (·.1),b<h.next:=fun b hb=>by
  obtain⟨x,hx,rfl⟩:=List.mem_map.1 hb;exact hids x hx
 have hvlt:=k5.lt;have hr1:=M1.at0.2.1;have hr2:h.next<h2.next:=M2.at1.2.1
 -- memory from the beginning to the loop
 have t34:Tch (ab::zd6 v) h2 h4:=(t3.mono fun b hb=>.inl (List.mem_cons_of_mem _ hb)).trans (t4.mono fun b hb=>.inl (by rw[List.mem_singleton.1 hb];exact List.mem_cons_self));have t04:Tch (ab::zd6 v) h h4:=(t2.mono fun b hb=>nomatch hb).trans t34
 have hid:∀x∈l,x.1 ∉ ab::zd6 v:=by
  intro x hx hb
  rcases List.mem_cons.1 hb with hb|hb
  ·exact k12 (hb▸List.mem_map_of_mem hx)
  ·exact k10 _ hb (List.mem_map_of_mem hx)
 have runs4:=k6.tch t04 hid
 have kn4:=k7.tch t04 k8 (fun hb=>by
  rcases List.mem_cons.1 hb with hb|hb
  ·exact hne hb.symm
  ·exact k13 hb)
 have r04:RowH h4 h.next z476 (z478 nb (false,0)):=M2.at1.1.tch t34 hr2 (fun hb=>by
  rcases List.mem_cons.1 hb with hb|hb
  ·omega
  ·have := hvlt _ hb
   omega)
 have kc4:=kc3.tch t4 hc3 (fun hb=>by
  have:=List.mem_singleton.1 hb;omega)
 have hTH:HasTz h4:=hT.tch t04 (fun hb=>by
  rcases List.mem_cons.1 hb with hb|hb
  ·exact z246 hT k1 hb
  ·rcases k5 with ⟨rfl, _⟩ | ⟨c, rest, rfl, _, g, _⟩
   ·exact nomatch hb
   ·exact z246 hT g (List.mem_singleton.1 hb))
 have hw:z9a (l++[(h.next,(false,0),at_)])=z9a l++[.ptr h.next 0,.int .i64 (at_:Int)]:=by
  rw[z170];rfl
 have hS:∀b∈l.map (·.1)++[h.next],b≤h.next:=fun b hb=>by
  rcases List.mem_append.1 hb with hb|hb
  ·exact Nat.le_of_lt (hidm b hb)
  ·exact Nat.le_of_eq (List.mem_singleton.1 hb)
 have n4':h4.next=h3.next:=n4
 have inv:InLoop h4 h4 nb h2.next 0 (l.map (·.1)++[h.next]) [] (l++[(h.next,(false,0),at_)]) []:=by
  refine⟨Nat.le_refl _,rfl,?_,(fun _ hx=>nomatch hx),fun x hx=>?_,?_,fun x hx=>?_,Tch.refl _ _⟩
  ·rw [hw]
   exact kc4
  ·rcases List.mem_append.1 hx with hx | hx
   ·exact runs4 x hx
   ·rw [List.mem_singleton.1 hx]
    exact⟨r04,by show h.next<h4.next;omega,show (0:Nat)<18446744073709551616 by decide⟩
  ·rw [List.nil_append, List.map_append, List.nodup_append]
   refine⟨k9,by simp,fun a ha b hb e=>?_⟩;have h1:=hidm a ha;have h2:b=h.next:=by simpa using hb
   omega
  ·rw [List.nil_append] at hx
   rcases List.mem_append.1 hx with hx|hx
   ·exact List.mem_append_left _ (List.mem_map_of_mem hx)
   ·rw [List.mem_singleton.1 hx]
    exact List.mem_append_right _ (List.mem_singleton.2 rfl)
 have habS:ab ∉ l.map (·.1)++[h.next]:=fun hb=>by
  rcases List.mem_append.1 hb with hb|hb
  ·exact k12 hb
  ·have := List.mem_singleton.1 hb
   omega
 have hnbS:nb ∉ l.map (·.1)++[h.next]:=fun hb=>by
  rcases List.mem_append.1 hb with hb|hb
  ·exact k14 hb
  ·have := List.mem_singleton.1 hb
   omega
 have hcS:h2.next ∉ l.map (·.1)++[h.next]:=fun hb=>by
  have:=hS _ hb;omega
 have hTS:0 ∉ h2.next::(l.map (·.1)++[h.next]):=fun hb=>by
  rcases List.mem_cons.1 hb with hb|hb
  ·exact z246 hTH kc4 hb
  ·rcases List.mem_append.1 hb with hb | hb
   ·obtain ⟨x, hx, e⟩ := List.mem_map.1 hb
    exact z246 hT (k6 x hx).1 e.symm
   ·exact z246 hTH r04 (List.mem_singleton.1 hb)
 refine z441 (n:=n) (d:=d) (h0:=h4) (c:=h2.next) (o:=o) (L:=l.length+1) (S:=l.map (·.1)++[h.next]) hTH hN hn hb (by omega) kn4 (by omega) hnbS (by omega) ka4 (by omega) habS (by omega) hv4 hcS (by omega) hTS (l++[(h.next,(false,0),at_)]) 0 n [] [] none h4 (by rw[List.length_append,List.length_singleton];omega) (by rw[List.length_append,List.length_singleton];omega) (fun x hx'=>by
  rcases List.mem_append.1 hx' with hx'|hx'
  ·exact hx x hx'
  ·rw [List.mem_singleton.1 hx']
   exact ha) inv fun H G' j=>?_
 rw[List.nil_append] at j ⊢;obtain⟨j1,j2,j3,j4,j5,j6,j7,j8⟩:=j;rw[ek30]
 have kaH:=ka4.tch j8 (by omega) (fun hb=>by
  rcases List.mem_cons.1 hb with hb|hb
  ·omega
  ·exact habS hb)
 have hnH:=j8.1;have kvH:VAt H (.sl h2.next 0 (l.length+1) 2) (z9a (za9 N byte (l++[(h.next,(false,0),at_)]))++G') (l.length+1):=.inr ⟨h2.next,[],rfl,by rw[List.length_append,z9d,j2];omega,by rw[z9a,List.append_nil] at j3;rw[List.append_nil];exact j3,by omega⟩
 obtain⟨v',h',e5,kx1,kx2,kx3,kx4,kx5⟩:=z264 (n:=n) (d:=d+2) (live:=(za9 N byte (l++[(h.next,(false,0),at_)])).length) kaH hv4 (by omega) kvH j1 (fun hb=>by
  have:=List.mem_singleton.1 hb;omega)
 refine Wp.callN e5 ?_;rw[List.set_set] at kx1;rw[List.take_left' (z9d _)] at kx2;have hset:(cells.set (o+1) v')[o+1]? =some v':=List.getElem?_set_self hlen
 have hbv:∀b∈zd6 v',b=h2.next:=fun b hb=>by
  rw[kx3] at hb;exact List.mem_singleton.1 hb
 have hks:∀x∈za9 N byte (l++[(h.next,(false,0),at_)]),x.1∈l.map (·.1)++[h.next]:=fun x hx=>j7 x (List.mem_append_left _ hx)
 have hkm:∀b∈(za9 N byte (l++[(h.next,(false,0),at_)])).map (·.1),b∈l.map (·.1)++[h.next]:=fun b hb=>by
  obtain⟨x,hx,rfl⟩:=List.mem_map.1 hb;exact hks x hx
 have kb3:zd6 (.sl h2.next 0 (l.length+1) 2)=[h2.next]:=rfl;rw[kb3] at kx5
 have tfin:Tch (ab::h2.next::(l.map (·.1)++[h.next])) h4 h':=(j8.mono fun b hb=>.inl (List.mem_cons_of_mem _ hb)).trans (kx5.mono fun b hb=>.inl (by
  rcases List.mem_cons.1 hb with hb|hb
  ·rw [hb]
   exact List.mem_cons_self
  ·rw [List.mem_singleton.1 hb]
   exact List.mem_cons_of_mem _ List.mem_cons_self))
 refine Wp.ret ⟨v',rfl,⟨kx1,by omega,?_,hset,kx2,?_,?_,by omega,?_,?_,?_,?_,?_,?_⟩,⟨fun b hb=>by rw[hbv b hb];omega,by rw[kx3];exact List.cons_ne_nil _ _⟩,?_⟩
 ·rw [List.getElem?_set_ne (by omega)]
  exact k3
 ·refine j4.tch kx5 fun x hx hb => ?_
  rcases List.mem_cons.1 hb with hb|hb
  ·exact habS (hb▸hks x hx)
  ·exact hcS (List.mem_singleton.1 hb▸hks x hx)
 ·refine kn4.tch tfin (by omega) fun hb => ?_
  rcases List.mem_cons.1 hb with hb|hb
  ·exact hne hb.symm
  ·rcases List.mem_cons.1 hb with hb | hb
   ·omega
   ·exact hnbS hb
 ·rw [List.append_nil] at j6
  exact j6
 ·intro b hb hm
  rw[hbv b hb] at hm;exact hcS (hkm _ hm)
 ·intro hb
  have:=hbv _ hb;omega
 ·exact fun hb=>habS (hkm _ hb)
 ·intro hb
  have:=hbv _ hb;omega
 ·exact fun hb=>hnbS (hkm _ hb)
 ·refine (t04.mono fun b hb => .inl ?_).trans' tfin fun b hb => ?_
  ·rcases List.mem_cons.1 hb with hb | hb
   ·rw [hb]
    exact List.mem_cons_self
   ·exact List.mem_cons_of_mem _ (List.mem_append_left _ hb)
  ·rcases List.mem_cons.1 hb with hb | hb
   ·rw [hb]
    exact .inl List.mem_cons_self
   ·rcases List.mem_cons.1 hb with hb | hb
    ·right
     omega
    ·rcases List.mem_append.1 hb with hb | hb
     ·exact .inl (List.mem_cons_of_mem _ (List.mem_append_right _ hb))
     ·right
      rw[List.mem_singleton.1 hb];exact Nat.le_refl _
end
abbrev z3c0:Nat:=26
structure ArmT where
 nb:Nat
 N:Nt
 v:AV
 l:List z19b
def z47a(a:ArmT):List Nat:=zd6 a.v++a.l.map (·.1)
def z56:List ArmT→List Nat
 |[]=>[]
 |a::r=>z47a a++z56 r
noncomputable def z113:List ArmT→List AV
 |[]=>[]
 |a::r=>[.ptr a.nb 0,a.v]++z113 r
theorem z23f:∀az:List ArmT,(z113 az).length=2*az.length
 |[]=>rfl
 |a::r=>by
  have:=z23f r;rw[z113,List.length_append,this];show 2+2*r.length=2*(r.length+1);omega
theorem z1c5:∀a b:List ArmT,z113 (a++b)=z113 a++z113 b
 |[],_=>rfl
 |x::a,b=>by rw[List.cons_append,z113,z113,z1c5 a b,List.append_assoc]
theorem z6a{b:Nat}:∀{az:List ArmT},b∈z56 az↔∃a∈az,b∈z47a a
 |[]=>by simp[z56]
 |a::r=>by
  rw[z56,List.mem_append,z6a]
  simp
structure ArmsAt (h:AHeap) (ab:Nat) (az:List ArmT):Prop where
 row:RowH h ab z3c1 (z113 az)
 hab:ab<h.next
 net:∀a∈az,NtOk a.N∧RowH h a.nb TNet (netC a.N)∧a.nb<h.next
 sl:∀a∈az,VAt h a.v (z9a a.l) a.l.length
 runs:∀a∈az,RunsAt h a.nb a.l
 nd:∀a∈az,(a.l.map (·.1)).Nodup
 apart:∀a∈az,∀b∈zd6 a.v,b ∉ a.l.map (·.1)
 own:∃f:Nat→Nat,f ab=0∧(∀a∈az,f a.nb=1)∧∀(i:Nat) (a:ArmT),az[i]? =some a→∀b∈z47a a,f b=i+2
section
variable {h h':AHeap}{ab:Nat}{az P R:List ArmT}{a:ArmT}
theorem ArmsAt.lt(k:ArmsAt h ab az):∀b∈z56 az,b<h.next:=by
 intro b hb;obtain⟨a,ha,hb⟩:=z6a.1 hb
 rcases List.mem_append.1 hb with hb|hb
 ·exact(k.sl a ha).lt b hb
 ·obtain ⟨x, hx, rfl⟩ := List.mem_map.1 hb
  exact(k.runs a ha x hx).2.1
theorem ArmsAt.tch{S:List Nat}(k:ArmsAt h ab az)(t:Tch S h h')(h1:ab ∉ S)(h2:∀a∈az,a.nb ∉ S)(h3:∀b∈z56 az,b ∉ S):ArmsAt h' ab az:=by
 obtain⟨k1,k2,k3,k4,k5,k6,k7,k8⟩:=k;exact⟨k1.tch t k2 h1,Nat.lt_of_lt_of_le k2 t.1,fun a ha=>⟨(k3 a ha).1,(k3 a ha).2.1.tch t (k3 a ha).2.2 (h2 a ha),Nat.lt_of_lt_of_le (k3 a ha).2.2 t.1⟩,fun a ha=>(k4 a ha).tch t (fun b hb=>h3 b (z6a.2 ⟨a,ha,List.mem_append_left _ hb⟩)),fun a ha=>(k5 a ha).tch t (fun x hx=>h3 x.1 (z6a.2 ⟨a,ha,List.mem_append_right _ (List.mem_map_of_mem hx)⟩)),k6,k7,k8⟩
theorem ArmsAt.at(k:ArmsAt h ab (P++a::R)):ArmAt h ab (0+P.length*2) a.nb a.N (z113 (P++a::R)) a.v a.l∧ab≠a.nb:=by
 obtain⟨f,f1,f2,f3⟩:=k.own;have ha:a∈P++a::R:=by simp
 have hi:(P++a::R)[P.length]? =some a:=by simp
 have f4:=f3 _ _ hi;have f5:=f2 a ha;have e:z113 (P++a::R)=z113 P++([.ptr a.nb 0,a.v]++z113 R):=by rw[z1c5,z113]
 have hP:=z23f P;have bv:∀{b},b∈zd6 a.v→f b=P.length+2:=fun hb=>f4 _ (List.mem_append_left _ hb);have bl:∀{b},b∈a.l.map (·.1)→f b=P.length+2:=fun hb=>f4 _ (List.mem_append_right _ hb);refine⟨⟨k.row,k.hab,?_,?_,k.sl a ha,k.runs a ha,(k.net a ha).2.1,(k.net a ha).2.2,k.nd a ha,k.apart a ha,fun hb=>?_,fun hb=>?_,fun hb=>?_,fun hb=>?_⟩,fun he=>?_⟩
 ·rw [e, List.getElem?_append_right (by omega), show 0 + P.length * 2 - (z113 P).length = 0 by omega]
  rfl
 ·rw [e, List.getElem?_append_right (by omega), show 0 + P.length * 2 + 1 - (z113 P).length = 1 by omega]
  rfl
 ·have := bv hb
  omega
 ·have := bl hb
  omega
 ·have := bv hb
  omega
 ·have := bl hb
  omega
 ·rw [he] at f1
  omega
theorem armsC_set{v':AV}:(z113 (P++a::R)).set (0+P.length*2+1) v'=z113 (P++{a with v:=v'}::R):=by
 have hP:=z23f P;rw[z1c5,z1c5,z113,z113,List.set_append_right _ _ (by omega),show 0+P.length*2+1 - (z113 P).length=1 by omega];rfl
theorem ArmsAt.step{v':AV}{l':List z19b}(k:ArmsAt h ab (P++a::R))(k':ArmAt h' ab (0+P.length*2) a.nb a.N ((z113 (P++a::R)).set (0+P.length*2+1) v') v' l')(hv:∀b∈zd6 v',b∈zd6 a.v∨h.next≤b)(hl:∀b∈l'.map (·.1),b∈a.l.map (·.1)∨h.next≤b)(t:Tch (ab::z47a a) h h'):
  ArmsAt h' ab (P++{a with v:=v',l:=l'}::R):=by
 obtain⟨f,f1,f2,f3⟩:=k.own;have ha:a∈P++a::R:=by simp
 have hi:(P++a::R)[P.length]? =some a:=by simp
 have f4:=f3 _ _ hi
 have hS:∀{b},b∈ab::z47a a→f b=0∨f b=P.length+2:=fun hb=>by
  rcases List.mem_cons.1 hb with hb|hb
  ·rw [hb]
   exact .inl f1
  ·exact .inr (f4 _ hb)
 have others:∀y∈P++{a with v:=v',l:=l'}::R,y={a with v:=v',l:=l'}∨(y∈P++a::R∧∀b∈z47a y,b ∉ ab::z47a a):=by
  intro y hy
  have place:∀(j:Nat),(P++a::R)[j]? =some y→j≠P.length→(y∈P++a::R∧∀b∈z47a y,b ∉ ab::z47a a):=fun j hj hne=>⟨List.mem_of_getElem? hj,fun b hb hm=>by
   have:=f3 _ _ hj b hb
   rcases hS hm with h|h<;>omega⟩
  rcases List.mem_append.1 hy with hy|hy
  ·obtain ⟨j, hj⟩ := List.getElem?_of_mem hy
   have hjl:j<P.length:=by
    apply Nat.lt_of_not_le;intro hh;rw[List.getElem?_eq_none hh] at hj;cases hj
   exact .inr (place j (by rw[List.getElem?_append_left hjl];exact hj) (by omega))
  ·rcases List.mem_cons.1 hy with hy | hy
   ·exact .inl hy
   ·obtain ⟨j, hj⟩ := List.getElem?_of_mem hy
    exact .inr (place (P.length+(j+1)) (by rw[List.getElem?_append_right (by omega),Nat.add_sub_cancel_left,List.getElem?_cons_succ];exact hj) (by omega))
 have nets:∀y∈P++a::R,y.nb ∉ ab::z47a a:=fun y hy hm=>by
  have:=f2 y hy
  rcases hS hm with h|h<;>omega
 have nbs:∀y∈P++{a with v:=v',l:=l'}::R,∃z∈P++a::R,y.nb=z.nb∧y.N=z.N:=by
  intro y hy
  rcases others y hy with rfl|⟨h1,_⟩
  ·exact⟨a,ha,rfl,rfl⟩
  ·exact⟨y,h1,rfl,rfl⟩
 refine⟨?_,k'.hab,fun y hy=>?_,fun y hy=>?_,fun y hy=>?_,fun y hy=>?_,fun y hy=>?_,fun b=>if b<h.next then f b else P.length+2,?_,fun y hy=>?_,fun i y hy b hb=>?_⟩
 ·have := k'.row
  rw[armsC_set] at this;rw[z1c5,z113] at this ⊢;exact this
 ·obtain ⟨z, hz, e1, e2⟩ := nbs y hy
  rw[e1,e2];exact⟨(k.net z hz).1,(k.net z hz).2.1.tch t (k.net z hz).2.2 (nets z hz),Nat.lt_of_lt_of_le (k.net z hz).2.2 t.1⟩
 ·rcases others y hy with rfl | ⟨h1, h2⟩
  ·exact k'.sl
  ·exact(k.sl y h1).tch t fun b hb=>h2 b (List.mem_append_left _ hb)
 ·rcases others y hy with rfl | ⟨h1, h2⟩
  ·exact k'.runs
  ·exact(k.runs y h1).tch t fun x hx=>h2 _ (List.mem_append_right _ (List.mem_map_of_mem hx))
 ·rcases others y hy with rfl | ⟨h1, h2⟩
  ·exact k'.nd
  ·exact k.nd y h1
 ·rcases others y hy with rfl | ⟨h1, h2⟩
  ·exact k'.apart
  ·exact k.apart y h1
 ·show (if ab < h.next then f ab else P.length + 2) = 0
  rw[if_pos k.hab,f1]
 ·obtain ⟨z, hz, e1, _⟩ := nbs y hy
  rw[e1];show (if z.nb<h.next then f z.nb else P.length+2)=1;rw[if_pos (k.net z hz).2.2,f2 z hz]
 ·show (if b < h.next then f b else P.length + 2) = i + 2
  by_cases hiP:i=P.length
  ·subst hiP
   have e:y={a with v:=v',l:=l'}:=by simpa using hy.symm
   subst e
   split
   ·rename_i hlt
    rcases List.mem_append.1 hb with hb|hb
    ·rcases hv b hb with hb | hb
     ·exact f4 b (List.mem_append_left _ hb)
     ·omega
    ·rcases hl b hb with hb | hb
     ·exact f4 b (List.mem_append_right _ hb)
     ·omega
   ·rfl
  ·have hy2 : (P ++ a :: R)[i]? = some y := by
    by_cases hlt:i<P.length
    ·rw [List.getElem?_append_left hlt] at hy ⊢
     exact hy
    ·rw [List.getElem?_append_right (by omega)] at hy ⊢
     obtain⟨j,hj⟩:∃j,i - P.length=j+1:=⟨i - P.length - 1,by omega⟩;rw[hj,List.getElem?_cons_succ] at hy ⊢;exact hy
   have hbl:b<h.next:=k.lt b (z6a.2 ⟨y,List.mem_of_getElem? hy2,hb⟩);rw[if_pos hbl];exact f3 _ _ hy2 b hb
end
def z2f5(B:Nat)(az:List ArmT):Prop:=∀a∈az,a.l.length≤B∧∀x∈a.l,x.2.2<B
abbrev WayW:=(Bool×Nat)×Nat
def z34b(N:Nt)(c:Nat):List WayW→List WayW
 |[]=>[]
 |x::l=>if z16d N (stepN N x.1 c)=true then z34b N c l else (stepN N x.1 c,x.2)::z34b N c l
def accW(N:Nt)(c:Nat):Option Nat→WayW→Option Nat
 |some f,_=>some f
 |none,x=>if z12b N (stepN N x.1 c)=true then some x.2 else none
def hitW(N:Nt)(c:Nat)(a:Option Nat)(l:List WayW):Option Nat:=l.foldl (accW N c) a
theorem z4b2{N:Nt}{c:Nat}:∀l:List z19b,(za9 N c l).map (·.2)=z34b N c (l.map (·.2))
 |[]=>rfl
 |x::l=>by
  rw[za9,List.map_cons,z34b, ←z4b2 l]
  split<;>rfl
theorem z39d{N:Nt}{c:Nat}:∀l:List z19b,(za9 N c l).length≤l.length
 |[]=>Nat.le_refl _
 |x::l=>by
  have:=z39d (N:=N) (c:=c) l;rw[za9,List.length_cons]
  split
  ·omega
  ·rw [List.length_cons]
   omega
theorem hitX_W{N:Nt}{c:Nat}:∀(l:List z19b) (a:Option Nat),z366 N c a l=hitW N c a (l.map (·.2))
 |[],_=>rfl
 |x::l,a=>by
  show z366 N c (accX N c a x) l=hitW N c (accW N c a x.2) (l.map (·.2));rw[hitX_W l]
  cases a<;>rfl
abbrev z2f6:=Nt×List WayW
def z116(a:ArmT):z2f6:=(a.N,a.l.map (·.2))
def z38e(c at_:Nat)(a:z2f6):z2f6:=(a.1,z34b a.1 c (a.2++[((false,0),at_)]))
def hitA(c at_:Nat)(a:z2f6):Option Nat:=hitW a.1 c none (a.2++[((false,0),at_)])
def z4a(c at_:Nat):List z2f6→Option (Nat×Nat)×List z2f6
 |[]=>(none,[])
 |a::r=>match hitA c at_ a with
  |some f=>(some (0,f),z38e c at_ a::r)
  |none=>((z4a c at_ r).1.map (fun z=>(z.1+1,z.2)),z38e c at_ a::(z4a c at_ r).2)
noncomputable def z45a(i at_:Nat):Option (Nat×Nat)→List AV
 |some z=>[.int .i64 ((i+z.1:Nat):Int),.int .i64 (z.2:Int),.int .i64 ((at_:Int)+1)]
 |none=>[.int .i64 0,.int .i64 0,.int .i64 0]
section
variable {n d ab byte at_ L hb:Nat}{h:AHeap}{Q:ARes→AHeap→Prop}{k8:AHeap→R}
set_option maxHeartbeats 4000000 in
theorem z1bb(hn:18446744073709551616<n)(hby:byte<256)(ha:at_<2500000)(hL:L<1000):
  ∀(R P:List ArmT) (fu:Nat) (H:AHeap),R.length<fu→P.length+R.length=L→ArmsAt H ab (P++R)→z2f5 at_ R→HasTz H→zbb z20c H.ex=false→RowH H h.next z3c0 [.int .i64 0,.int .i64 0,.int .i64 0]→h.next<H.next→h.next≠ab→(∀a∈P++R,a.nb≠h.next)→h.next ∉ z56 (P++R)→
   (∀(H':AHeap) (R':List ArmT),Tch (ab::z56 (P++R)) H H'→ArmsAt H' ab (P++R')→z2f5 (at_+1) R'→R'.map z116=(z4a byte at_ (R.map z116)).2→R'.map (·.nb)=R.map (·.nb)→(∀b∈z56 (P++R'),b∈z56 (P++R)∨H.next≤b)→(z4a byte at_ (R.map z116)).1=none→(∀a∈R',zd6 a.v≠[])→Wp (k8 H') Q)→
   (∀(H':AHeap) (R':List ArmT) (z:Nat×Nat),Tch (h.next::ab::z56 (P++R)) H H'→ArmsAt H' ab (P++R')→z2f5 (at_+1) R'→R'.map z116=(z4a byte at_ (R.map z116)).2→R'.map (·.nb)=R.map (·.nb)→(∀b∈z56 (P++R'),b∈z56 (P++R)∨H.next≤b)→(z4a byte at_ (R.map z116)).1=some z→Q (.ret (.tup [.agg (z45a P.length at_ (some z)),.bool true])) H')→
   Wp (z10e (world n (d+4)) (.sl ab 0 L 2) (byte:Int) (at_:Int) h (L:Int) k8 fu (P.length:Int) H) Q
 |_,_,0,_,hf,_,_,_,_,_,_,_,_,_,_,_,_=>by omega
 |[],P,fu+1,H,hf,hPL,k,hB,hT,hx,kh,hh,hab,hnb,hbl,hk,hq=>by
  have hPl:P.length=L:=hPL;rw[z14f];unfold ze9
  ((with_reducible refine Wp.lett ?_))
  refine y6 (by rw[decide_eq_false_iff_not];omega) ?_;exact hk H [] (Tch.refl _ _) k (fun a ha=>nomatch ha) rfl rfl (fun b hb=>.inl hb) rfl (fun _ h=>nomatch h)
 |a::R,P,fu+1,H,hf,hPL,k,hB,hT,hx,kh,hh,hab,hnb,hbl,hk,hq=>by
  rw[List.length_cons] at hf hPL;have hPl:P.length<L:=by omega
  have hBa:=hB a List.mem_cons_self;obtain⟨ka,hne⟩:=k.at
  obtain⟨v',H1,e1,k1,⟨kv1,kne⟩,t1⟩:=z470 (n:=n) (d:=d) (byte:=byte) (at_:=at_) hT (k.net a (by simp)).1 hn hby ka hne (by omega) (fun x hx=>by
   have:=hBa.2 x hx;omega) (by omega) hx
  have hl1:∀b∈(za9 a.N byte (a.l++[(H.next,(false,0),at_)])).map (·.1),b∈a.l.map (·.1)∨H.next≤b:=by
   intro b hb;obtain⟨y,hy,rfl⟩:=List.mem_map.1 hb;obtain⟨x,hx,rfl⟩:=z22e hy;show x.1∈_∨H.next≤x.1
   rcases List.mem_append.1 hx with hx|hx
   ·exact .inl (List.mem_map_of_mem hx)
   ·rw [List.mem_singleton.1 hx]
    exact .inr (Nat.le_refl _)
  have kk:=k.step k1 (fun b hb=>.inr (kv1 b hb)) hl1 t1
  have hr:z366 a.N byte none (a.l++[(H.next,(false,0),at_)])=hitA byte at_ (z116 a):=by
   rw[hitX_W,List.map_append];rfl
  have ea:z116 {a with v:=v',l:=za9 a.N byte (a.l++[(H.next,(false,0),at_)])}=z38e byte at_ (z116 a):=by
   show (a.N,(za9 a.N byte (a.l++[(H.next,(false,0),at_)])).map (·.2))=_;rw[z4b2,List.map_append];rfl
  have hB1:(za9 a.N byte (a.l++[(H.next,(false,0),at_)])).length≤at_+1∧∀x∈za9 a.N byte (a.l++[(H.next,(false,0),at_)]),x.2.2<at_+1:=by
   refine⟨Nat.le_trans (z39d _) (by rw[List.length_append,List.length_singleton];omega),fun y hy=>?_⟩;obtain⟨x,hx,rfl⟩:=z22e hy;show x.2.2<at_+1
   rcases List.mem_append.1 hx with hx|hx
   ·have := hBa.2 x hx
    omega
   ·rw [List.mem_singleton.1 hx]
    exact Nat.lt_succ_self _
  have sub1:∀b∈ab::z47a a,b∈ab::z56 (P++a::R):=fun b hb=>by
   rcases List.mem_cons.1 hb with hb|hb
   ·rw [hb]
    exact List.mem_cons_self
   ·exact List.mem_cons_of_mem _ (z6a.2 ⟨a,by simp,hb⟩)
  have sub2:∀b∈z56 (P++{a with v:=v',l:=za9 a.N byte (a.l++[(H.next,(false,0),at_)])}::R),b∈z56 (P++a::R)∨H.next≤b:=by
   intro b hb;obtain⟨y,hy,hb⟩:=z6a.1 hb
   rcases List.mem_append.1 hy with hy|hy
   ·exact .inl (z6a.2 ⟨y,List.mem_append_left _ hy,hb⟩)
   rcases List.mem_cons.1 hy with rfl|hy
   ·rcases List.mem_append.1 hb with hb | hb
    ·exact .inr (kv1 b hb)
    ·rcases hl1 b hb with hb | hb
     ·exact .inl (z6a.2 ⟨a,by simp,List.mem_append_right _ hb⟩)
     ·exact .inr hb
   ·exact .inl (z6a.2 ⟨y,by simp[hy],hb⟩)
  have t1':Tch (ab::z56 (P++a::R)) H H1:=t1.mono fun b hb=>.inl (sub1 b hb)
  have hhS:h.next ∉ ab::z56 (P++a::R):=fun hb=>by
   rcases List.mem_cons.1 hb with hb|hb
   ·exact hab hb
   ·exact hbl hb
  have kh1:=kh.tch t1' hh hhS
  have hTz1:HasTz H1:=hT.tch t1' (fun hb=>by
   rcases List.mem_cons.1 hb with hb|hb
   ·exact z246 hT k.row hb
   ·obtain ⟨y, hy, hb⟩ := z6a.1 hb
    rcases List.mem_append.1 hb with hb|hb
    ·rcases k.sl y hy with ⟨e, _⟩ | ⟨c, rest, e, _, g, _⟩
     ·rw [e] at hb
      exact nomatch hb
     ·rw [e] at hb
      exact z246 hT g (List.mem_singleton.1 hb)
    ·obtain ⟨x, hx, e⟩ := List.mem_map.1 hb
     exact z246 hT (k.runs y hy x hx).1 e.symm)
  have hx1:zbb z20c H1.ex=false:=by rw[t1.2.1];exact hx
  have i1:=z25e (b:=ab) hPl;have el:(P.length:Int)+1=((P.length+1:Nat):Int):=by omega
  rw[z14f];unfold ze9
  ((with_reducible refine Wp.lett ?_))
  refine y7 (by rw[decide_eq_true_eq];omega) ?_;refine Wp.obind i1 ?_;refine Wp.callN e1 ?_;refine Wp.obind (zf1 _ _) (Wp.obind (z4 _ _) (Wp.obind (zf0 _ _ _) (Wp.obind (z5 _) ?_)));rw[hr];have hh1:h.next<H1.next:=Nat.lt_of_lt_of_le hh t1.1;cases hz:hitA byte at_ (z116 a) with
  |some f=>
   refine y7 rfl ?_
   (((with_reducible refine ye ?_ ?_ ?_);omega;omega))
   rw[ze];refine Wp.stAll kh1 rfl rfl rfl fun H2 k2 t2 n2=>?_;refine Wp.obind (y12 k2 rfl) ?_;refine Wp.ret ?_
   have e9:z4a byte at_ ((a::R).map z116)=(some (0,f),z38e byte at_ (z116 a)::R.map z116):=by
    rw[List.map_cons,z4a,hz]
   have:=hq H2 ({a with v:=v',l:=za9 a.N byte (a.l++[(H.next,(false,0),at_)])}::R) (0,f) ((t1'.mono fun b hb=>.inl (List.mem_cons_of_mem _ hb)).trans (t2.mono fun b hb=>.inl (by rw[List.mem_singleton.1 hb];exact List.mem_cons_self))) (kk.tch t2 (by simpa using hab.symm) (fun y hy hm=>?_) (fun b hb hm=>?_)) (fun y hy=>?_) (by rw[e9,List.map_cons,ea]) rfl sub2 (by rw[e9])
   ·exact this
   ·obtain rfl | hy : y = { a with v := v', l := za9 a.N byte (a.l ++ [(H.next, (false, 0), at_)]) } ∨ y ∈ P ++ a :: R := by
     rcases List.mem_append.1 hy with hy|hy
     ·exact .inr (List.mem_append_left _ hy)
     rcases List.mem_cons.1 hy with hy|hy
     ·exact .inl hy
     ·exact .inr (by simp[hy])
    ·exact hnb a (by simp) (List.mem_singleton.1 hm)
    ·exact hnb y hy (List.mem_singleton.1 hm)
   ·have hm := List.mem_singleton.1 hm
    subst hm
    rcases sub2 _ hb with hb|hb
    ·exact hbl hb
    ·omega
   ·rcases List.mem_cons.1 hy with rfl | hy
    ·exact hB1
    ·have := hB y (List.mem_cons_of_mem _ hy)
     exact⟨by omega,fun x hx=>Nat.lt_succ_of_lt (this.2 x hx)⟩
  |none=>
   refine y6 rfl ?_
   (((with_reducible refine ye ?_ ?_ ?_);omega;omega))
   rw[el]
   have e9:z4a byte at_ ((a::R).map z116)=((z4a byte at_ (R.map z116)).1.map (fun z=>(z.1+1,z.2)),z38e byte at_ (z116 a)::(z4a byte at_ (R.map z116)).2):=by
    rw[List.map_cons,z4a,hz]
   have hsh:P++{a with v:=v',l:=za9 a.N byte (a.l++[(H.next,(false,0),at_)])}::R=(P++[{a with v:=v',l:=za9 a.N byte (a.l++[(H.next,(false,0),at_)])}])++R:=by simp
   rw[hsh] at kk sub2;have hPL1:(P++[{a with v:=v',l:=za9 a.N byte (a.l++[(H.next,(false,0),at_)])}]).length=P.length+1:=by rw[List.length_append,List.length_singleton]
   rw[←hPL1]
   have trS:∀b∈ab::z56 ((P++[{a with v:=v',l:=za9 a.N byte (a.l++[(H.next,(false,0),at_)])}])++R),b∈ab::z56 (P++a::R)∨H.next≤b:=fun b hb=>by
    rcases List.mem_cons.1 hb with hb|hb
    ·rw [hb]
     exact .inl List.mem_cons_self
    ·exact(sub2 b hb).imp (fun h=>List.mem_cons_of_mem _ h) id
   have reas:∀R':List ArmT,(P++[{a with v:=v',l:=za9 a.N byte (a.l++[(H.next,(false,0),at_)])}])++R'=P++{a with v:=v',l:=za9 a.N byte (a.l++[(H.next,(false,0),at_)])}::R':=fun R'=>by simp
   have hB2:∀{R':List ArmT},z2f5 (at_+1) R'→z2f5 (at_+1) ({a with v:=v',l:=za9 a.N byte (a.l++[(H.next,(false,0),at_)])}::R'):=fun hR y hy=>by
    rcases List.mem_cons.1 hy with rfl|hy
    ·exact hB1
    ·exact hR y hy
   have sub3:∀{R':List ArmT},(∀b∈z56 ((P++[{a with v:=v',l:=za9 a.N byte (a.l++[(H.next,(false,0),at_)])}])++R'),b∈z56 ((P++[{a with v:=v',l:=za9 a.N byte (a.l++[(H.next,(false,0),at_)])}])++R)∨H1.next≤b)→∀b∈z56 (P++{a with v:=v',l:=za9 a.N byte (a.l++[(H.next,(false,0),at_)])}::R'),b∈z56 (P++a::R)∨H.next≤b:=fun hR b hb=>by
    rw[←reas] at hb
    rcases hR b hb with hb|hb
    ·exact sub2 b hb
    ·exact .inr (Nat.le_trans t1.1 hb)
   refine z1bb hn hby ha hL R _ fu H1 (by omega) (by omega) kk (fun y hy=>hB y (List.mem_cons_of_mem _ hy)) hTz1 hx1 kh1 hh1 hab (fun y hy=>?_) (fun hb=>?_) (fun H' R' t k' b' e' m' s' z' w'=>?_) (fun H' R' z t k' b' e' m' s' z'=>?_)
   ·rcases List.mem_append.1 hy with hy | hy
    ·rcases List.mem_append.1 hy with hy | hy
     ·exact hnb y (List.mem_append_left _ hy)
     ·rw [List.mem_singleton.1 hy]
      exact hnb a (by simp)
    ·exact hnb y (by simp[hy])
   ·rcases sub2 _ hb with hb | hb
    ·exact hbl hb
    ·omega
   ·refine hk H' ({a with v:=v',l:=za9 a.N byte (a.l++[(H.next,(false,0),at_)])}::R') (t1'.trans' t trS) (by rw[←reas];exact k') (hB2 b') (by rw[e9,List.map_cons,ea,e']) (by rw[List.map_cons,List.map_cons,m']) (sub3 s') (by rw[e9,z'];rfl) (fun y hy=>by
     rcases List.mem_cons.1 hy with rfl|hy
     ·exact kne
     ·exact w' y hy)
   ·have := hq H' ({ a with v := v', l := za9 a.N byte (a.l ++ [(H.next, (false, 0), at_)]) } :: R') (z.1 + 1, z.2) ((t1'.mono fun b hb => .inl (List.mem_cons_of_mem _ hb)).trans' t (fun b hb => by
     rcases List.mem_cons.1 hb with hb|hb
     ·rw [hb]
      exact .inl List.mem_cons_self
     ·exact(trS b hb).imp (fun h=>List.mem_cons_of_mem _ h) id)) (by rw[←reas];exact k') (hB2 b') (by rw[e9,List.map_cons,ea,e']) (by rw[List.map_cons,List.map_cons,m']) (sub3 s') (by rw[e9,z'];rfl)
    rw[hPL1]
    have eh:z45a (P.length+1) at_ (some z)=z45a P.length at_ (some (z.1+1,z.2)):=by
     show [AV.int .i64 ((P.length+1+z.1:Nat):Int),_,_]=[AV.int .i64 ((P.length+(z.1+1):Nat):Int),_,_];rw[show P.length+1+z.1=P.length+(z.1+1) by omega]
    rw[eh];exact this
end
abbrev TArms:Nat:=58
abbrev TPat:Nat:=51
section
variable {n d ab byte at_ L:Nat}{h:AHeap}{az:List ArmT}
theorem ArmsAt.tz(k:ArmsAt h ab az)(hT:HasTz h):0 ∉ ab::z56 az:=fun hb=>by
 rcases List.mem_cons.1 hb with hb|hb
 ·exact z246 hT k.row hb
 ·obtain ⟨y, hy, hb⟩ := z6a.1 hb
  rcases List.mem_append.1 hb with hb|hb
  ·rcases k.sl y hy with ⟨e, _⟩ | ⟨c, rest, e, _, g, _⟩
   ·rw [e] at hb
    exact nomatch hb
   ·rw [e] at hb
    exact z246 hT g (List.mem_singleton.1 hb)
  ·obtain ⟨x, hx, e⟩ := List.mem_map.1 hb
   exact z246 hT (k.runs y hy x hx).1 e.symm
theorem z26e(hn:18446744073709551616<n)(hby:byte<256)(ha:at_<2500000)(hL:az.length<1000)(k:ArmsAt h ab az)(hB:z2f5 at_ az)(hT:HasTz h)(hx:h.ex=[]):
  ∃h' R',world n (d+5) 30 [.sl ab 0 az.length 2,.int .u8 (byte:Int),.int .i64 (at_:Int)] h=some (.ret (.tup [.agg (z45a 0 at_ (z4a byte at_ (az.map z116)).1),.bool (z4a byte at_ (az.map z116)).1.isSome]),h')∧Tch (ab::z56 az) h h'∧ArmsAt h' ab R'∧z2f5 (at_+1) R'∧R'.map z116=(z4a byte at_ (az.map z116)).2∧R'.map (·.nb)=az.map (·.nb)∧(∀b∈z56 R',b∈z56 az∨h.next≤b)∧((z4a byte at_ (az.map z116)).1=none→∀a∈R',zd6 a.v≠[]):=by
 suffices hK:Wp (world n (d+5) 30 [.sl ab 0 az.length 2,.int .u8 (byte:Int),.int .i64 (at_:Int)] h) fun r h'=>∃R',r=.ret (.tup [.agg (z45a 0 at_ (z4a byte at_ (az.map z116)).1),.bool (z4a byte at_ (az.map z116)).1.isSome])∧Tch (ab::z56 az) h h'∧ArmsAt h' ab R'∧z2f5 (at_+1) R'∧R'.map z116=(z4a byte at_ (az.map z116)).2∧R'.map (·.nb)=az.map (·.nb)∧(∀b∈z56 R',b∈z56 az∨h.next≤b)∧((z4a byte at_ (az.map z116)).1=none→∀a∈R',zd6 a.v≠[]) by
  obtain⟨_,h',e,R',rfl,k⟩:=hK;exact⟨h',R',e,k⟩
 rw[z369];unfold z143;refine y9 (Mem.nil [] h) fun h2 M2=>?_;have t2:=M2.tch;have hlt:=M2.at0.2.1;have k2:=k.tch t2 (by simp) (fun _ _=>by simp) (fun _ _=>by simp)
 have habn:h.next≠ab:=by
  have:=k.hab;omega
 have hbl:h.next ∉ z56 az:=fun hb=>by
  have:=k.lt _ hb;omega
 have hnbs:∀a∈az,a.nb≠h.next:=fun a ha=>by
  have:=(k.net a ha).2.2;omega
 refine Wp.obind (show z17d (.sl ab 0 az.length 2)=some (az.length:Int) from rfl) ?_;refine y1a fun k8 ek8=>?_;have n2:=t2.1;refine z1bb (n:=n) (d:=d) (h:=h) (L:=az.length) hn hby ha hL az [] n h2 (by omega) (by simp) k2 hB (hT.tch t2 (by simp)) (by rw[t2.2.1,hx];rfl) M2.at0.1 hlt habn hnbs hbl (fun H' R' t k' b' e' m' s' z' w'=>?_) (fun H' R' z t k' b' e' m' s' z'=>?_)
 ·rw [List.nil_append] at t k' s'
  have hS:h.next ∉ ab::z56 az:=fun hb=>by
   rcases List.mem_cons.1 hb with hb|hb
   ·exact habn hb
   ·exact hbl hb
  have kh:=M2.at0.1.tch t hlt hS;rw[ek8];rw[ze];refine Wp.stAll kh rfl rfl rfl fun H2 kk2 tt nn=>?_;refine Wp.obind (y12 kk2 rfl) ?_;rw[z'];refine Wp.ret ⟨R',rfl,?_,k'.tch tt ?_ (fun y hy hm=>?_) (fun b hb hm=>?_),b',e',m',fun b hb=>(s' b hb).imp id fun hh=>by omega,fun _=>w'⟩
  ·refine ((t2.mono fun b hb => nomatch hb).trans t).trans' tt fun b hb => ?_
   rw[List.mem_singleton.1 hb];exact .inr (Nat.le_refl _)
  ·intro hm
   exact habn (List.mem_singleton.1 hm).symm
  ·have : y.nb ∈ R'.map (·.nb) := List.mem_map_of_mem hy
   rw[m'] at this;obtain⟨w,hw,e⟩:=List.mem_map.1 this;exact hnbs w hw (e.trans (List.mem_singleton.1 hm))
  ·have hm := List.mem_singleton.1 hm
   subst hm
   rcases s' _ hb with hb|hb
   ·exact hbl hb
   ·omega
 ·rw [List.nil_append] at t k' s'
  rw[z'];refine⟨R',rfl,?_,k',b',e',m',fun b hb=>(s' b hb).imp id fun hh=>by omega,fun hh=>by cases hh⟩;refine(t2.mono fun b hb=>nomatch hb).trans' t fun b hb=>?_
  rcases List.mem_cons.1 hb with hb|hb
  ·rw [hb]
   exact .inr (Nat.le_refl _)
  ·exact .inl hb
end
theorem bldArm(b:Nat):z2d3 Tryd.prog z3c1 [(0,.ptr b 0)]=some [.ptr b 0,.nsl]:=by kernel_rfl
theorem bldSlArm(h:AHeap)(b:Nat):z16e Tryd.prog h TArms 1 [(0,.agg [.ptr b 0,.nsl])]=zcb h z3c1 [.ptr b 0,.nsl] 1 2:=by kernel_rfl
theorem fitArm:fitB Tryd.prog z3c1 32=true:=by kernel_rfl
def z406(n d:Nat)(p:Int×Bytes)(t:Nd):Prop:=TreeP p.2 p.1 (.ok t)∧p.2.length≤64∧z12a t=false∧∀h:AHeap,h.ex=[]→(∃nb h',world n (d+1) 25 [.agg [.int .i64 p.1,strA p.2]] h=some (.ret (.tup [.ptr nb 0,.int .i64 0]),h')∧Abs.Mem [] h h' [(nb,TNet,netC (za4 t))])∧world n (d+1) 44 [.agg [.int .i64 p.1,strA p.2]] h=some (.ret (.bool false),h)
def z447(n d:Nat)(p:Int×Bytes):Prop:=(∀h:AHeap,h.ex=[]→world n (d+1) 25 [.agg [.int .i64 p.1,strA p.2]] h=some (.ret (.tup [.nilp,.int .i64 2]),h))∨∃t,TreeP p.2 p.1 (.ok t)∧z12a t=true∧∀h:AHeap,h.ex=[]→(∃nb h',world n (d+1) 25 [.agg [.int .i64 p.1,strA p.2]] h=some (.ret (.tup [.ptr nb 0,.int .i64 0]),h')∧Abs.Mem [] h h' [(nb,TNet,netC (za4 t))])∧world n (d+1) 44 [.agg [.int .i64 p.1,strA p.2]] h=some (.ret (.bool true),h)
theorem arm_or{n d:Nat}(hn:18446744073709551620<n)(hd:1100≤d)(p:Int×Bytes):(∃t,z406 n d p t)∨z447 n d p:=by
 rcases arm_all p.1 p.2 hn hd with hb|⟨t,tp,hl,ht⟩
 ·exact .inr (.inl fun h hx=>hb h (by rw[hx];rfl))
 ·cases he : z12a t with
  |false=>exact .inl ⟨t,tp,hl,he,fun h hx=>by have:=ht h (by rw[hx];rfl);rw[he] at this;exact this⟩
  |true=>exact .inr (.inr ⟨t,tp,he,fun h hx=>by have:=ht h (by rw[hx];rfl);rw[he] at this;exact this⟩)
inductive ArmsOk (n d:Nat):List (Int×Bytes)→List Nd→Prop
 |nil:ArmsOk n d [] []
 |cons {p:Int×Bytes} {t:Nd} {ps:List (Int×Bytes)} {ts:List Nd} (h:z406 n d p t) (k:ArmsOk n d ps ts):ArmsOk n d (p::ps) (t::ts)
theorem ArmsOk.len{n d:Nat}{ps:List (Int×Bytes)}{ts:List Nd}(k:ArmsOk n d ps ts):ts.length=ps.length:=by
 induction k with
 |nil=>rfl
 |cons _ _ ih=>rw[List.length_cons,List.length_cons,ih]
theorem arms_or{n d:Nat}(hn:18446744073709551620<n)(hd:1100≤d):∀ps:List (Int×Bytes),(∃ts,ArmsOk n d ps ts)∨∃pre ts p post,ps=pre++p::post∧ArmsOk n d pre ts∧z447 n d p
 |[]=>.inl ⟨[],.nil⟩
 |p::ps=>by
  rcases arm_or hn hd p with⟨t,ht⟩|hb
  ·rcases arms_or hn hd ps with ⟨ts, hts⟩ | ⟨pre, ts, q, post, rfl, h1, h2⟩
   ·exact .inl ⟨t::ts,.cons ht hts⟩
   ·exact .inr ⟨p::pre,t::ts,q,post,rfl,.cons ht h1,h2⟩
  ·exact .inr ⟨[],[],p,ps,rfl,.nil,hb⟩
noncomputable def z419(p:Int×Bytes):List AV:=[.int .i64 p.1,strA p.2]
abbrev z2f4:=List (Nat×Nd)
noncomputable def z4a3(D:z2f4):List zd7:=D.map fun x=>(x.1,TNet,netC (za4 x.2))
noncomputable def z471(D:z2f4):List (List AV):=D.map fun x=>[.ptr x.1 0,.nsl]
section
variable {n d:Nat}{h0:AHeap}{v:AV}{ps:List (Int×Bytes)}{Q:ARes→AHeap→Prop}{k15:AV→AHeap→R}
theorem z20a(hx:h0.ex=[])(kp:Slc h0.next h0 2 v (ps.map z419))(hps:ps.length≤8):
  ∀(pre:List (Int×Bytes)) (ts:List Nd) (post:List (Int×Bytes)) (i fu:Nat) (D:z2f4) (v4:AV) (T:List zd7) (H:AHeap),ArmsOk n d pre ts→ps.drop i=pre++post→pre.length<fu→D.length=i→GrowT z3c1 2 (z471 D) v4 T→Abs.Mem [] h0 H (z4a3 D++T)→
   (∀(D':z2f4) (v':AV) (T':List zd7) (H':AHeap) (fu':Nat),D'.map (·.2)=D.map (·.2)++ts→GrowT z3c1 2 (z471 D') v' T'→Abs.Mem [] h0 H' (z4a3 D'++T')→fu'+pre.length=fu→Wp (za5 (world n (d+1)) v (ps.length:Int) k15 fu' v' ((i+pre.length:Nat):Int) H') Q)→
   Wp (za5 (world n (d+1)) v (ps.length:Int) k15 fu v4 (i:Int) H) Q
 |_,_,_,_,0,_,_,_,_,_,_,hf,_,_,_,_=>by omega
 |[],ts,post,i,fu+1,D,v4,T,H,ka,hd,hf,hD,g,M,hk=>by
  cases ka
  exact hk D v4 T H (fu+1) (by rw[List.append_nil]) g M rfl
 |p::pre,ts,post,i,fu+1,D,v4,T,H,ka,hd,hf,hD,g,M,hk=>by
  cases ka with
  |cons ha ka=>
   rename_i t ts;rw[List.length_cons] at hf;obtain⟨hi,hp,hd2⟩:=z17a hd;have hxH:∀{h1:AHeap} {rs:List zd7},Abs.Mem [] h0 h1 rs→h1.ex=[]:=fun M=>by rw[M.ex,hx]
   obtain⟨b,hb,x1,y1⟩:=(kp.tch M.tch (Nat.le_refl _) (by simp)).row (i:=i) (by rw[List.length_map];exact hi);rw[List.getElem_map,hp] at y1;have el:(i:Int)+1=((i+1:Nat):Int):=by omega
   have o2:(z419 p).all AV.one=true:=rfl;rw[zde];unfold z91
   ((with_reducible refine Wp.lett ?_))
   refine y7 (by rw[decide_eq_true_eq];omega) ?_;refine Wp.obind x1 (Wp.obind y1 ?_);refine y9 M fun h2 M2=>?_;rw[ze];refine y10 M2 rfl rfl o2 fun h3 M3=>?_;refine y15 M3 rfl ?_;obtain⟨⟨nb,h4,e4,N4⟩,_⟩:=ha.2.2.2 h3 (hxH M3);refine Wp.callN e4 ?_;have M4:=Mem.frame (xs:=[]) M3 N4;simp only[List.cons_append,List.nil_append] at M4;refine Wp.obind (zf1 _ _) (Wp.obind (zf0 _ _ _) (Wp.obind (z4 _ _) ?_))
   ((with_reducible refine Wp.lett ?_))
   refine y1a fun j33 ej33=>?_;refine y6 rfl ?_;refine y1f M4 rfl ?_;refine Wp.callN (ha.2.2.2 h4 (hxH M4)).2 ?_;refine Wp.obind (z5 _) ?_;rw[ej33];refine y6 rfl ?_;refine Wp.obind (bldArm _) ?_
   have M5:Abs.Mem [] h0 h4 ((nb,TNet,netC (za4 t))::z4a3 D++T):=by
    refine⟨fun x hx=>M4.row x ?_,?_,M4.tch⟩
    ·rw [List.cons_append] at hx
     rcases List.mem_cons.1 hx with hx|hx
     ·rw [hx]
      exact List.mem_cons_self
     ·exact List.mem_cons_of_mem _ (List.mem_cons_of_mem _ hx)
    ·have ap := M4.apart
     rw[List.map_cons,List.map_cons] at ap;rw[List.cons_append,List.map_cons];exact ap.sublist ((List.sublist_cons_self _ _).cons_cons _)
   refine y32 M5 (bldSlArm _ _) rfl (by rw[hx];rfl) fun h6 M6=>?_;have hDl:(z471 D).length=i:=by rw[z471,List.length_map,hD]
   refine Wp.grow (P:=Tryd.prog) (sz:=2) (B:=32) M6 g (by kernel_rfl) (by kernel_rfl) (by kernel_rfl) fitArm (by rw[hx];rfl) rfl rfl (by rw[hDl];omega) (by rw[hDl];omega) fun v7 h7 T7 g7 M7=>?_
   (((with_reducible refine ye ?_ ?_ ?_);omega;omega))
   rw[el]
   have e9:∀D:z2f4,z471 (D++[(nb,t)])=z471 D++[[.ptr nb 0,.nsl]]:=fun D=>by
    unfold z471;rw[List.map_append];rfl
   refine z20a hx kp hps pre ts post (i+1) fu (D++[(nb,t)]) v7 T7 h7 ka hd2 (by omega) (by rw[List.length_append,List.length_singleton,hD]) (by rw[e9];exact g7) ?_ fun D' v' T' H' fu' a1 a2 a3 a4=>?_
   ·refine M7.perm ?_
    unfold z4a3;rw[List.map_append];exact(List.perm_append_comm (l₁:=[(nb,TNet,netC (za4 t))])).append_right _ |>.symm
   ·have := hk D' v' T' H' fu' (by rw [a1, List.map_append, List.append_assoc]; rfl) a2 a3 (by rw [List.length_cons]; omega)
    rw[List.length_cons,show i+(pre.length+1)=i+1+pre.length by omega] at this;exact this
end
end Go.Proofs.YtcahhjjnihipdaaDoor
