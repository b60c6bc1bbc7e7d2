/- What journalPlays_proved stands on, part 10 of 10. -/
import Derived.Test.YtbhblbffdmiepaaJP9
namespace Go.Proofs.Ytbhblbffdmiepaa
open Go.RowKit Abs
def z47b(n:Nat):Int:=if 1099511627776<(n:Int) then 0 else (n:Int)
def rdR(p:Bytes):Snd:=⟨z47b (rd1 p).1,z47b (rd2 p).1,z47b (rd3 p).1,z47b (rd4 p).1,(rdT p).1⟩
theorem z38e{v:Nat}{m:Int}(hm:m≤1099511627776):(z140 (z47b v) m↔z140 (cap v) m)∧(z140 (cap v) m→z47b v=cap v):=by
 unfold z140 z47b cap
 split<;>split<;>omega
theorem rdR_eq(p:Bytes):z30 (rdR p)=z30 (rdX p)∧(z30 (rdX p)=0→rdR p=rdX p):=by
 obtain⟨a1,b1⟩:=z38e (v:=(rd1 p).1) (m:=1048576) (by decide);obtain⟨a2,b2⟩:=z38e (v:=(rd2 p).1) (m:=1099511627776) (by decide);obtain⟨a3,b3⟩:=z38e (v:=(rd3 p).1) (m:=1048576) (by decide);obtain⟨a4,b4⟩:=z38e (v:=(rd4 p).1) (m:=1048576) (by decide);have hn:z16f (rdR p)↔z16f (rdX p):=⟨fun h=>⟨a1.1 h.1,a2.1 h.2.1,a3.1 h.2.2.1,a4.1 h.2.2.2⟩,fun h=>⟨a1.2 h.1,a2.2 h.2.1,a3.2 h.2.2.1,a4.2 h.2.2.2⟩⟩;refine⟨?_,fun h=>?_⟩
 ·unfold z30
  by_cases h:z16f (rdX p)
  ·rw [if_pos h, if_pos (hn.2 h)]
   rfl
  ·rw[if_neg h,if_neg (fun hh=>h (hn.1 hh))]
 ·obtain ⟨⟨h1, h2, h3, h4⟩, _⟩ := zd7 h
  unfold rdR rdX;rw[b1 h1,b2 h2,b3 h3,b4 h4]
theorem z497{L:List Snd}{i:Nat}(hi:i<L.length)(k:Int):z5a (L.take (i+1)) k=if L[i].k=k then L[i] else z5a (L.take i) k:=by
 unfold z5a;rw[List.take_succ_eq_append_getElem hi,z339]
 split<;>rfl
def z3fb(L:List Snd)(x:Snd):Int:=if z30 x≠0 then z30 x else z299 L x
section
variable {n d:Nat}{h H:AHeap}{x:Snd}{p:Bytes}{L:List Snd}{v:AV}{Q:ARes→AHeap→Prop}
set_option maxHeartbeats 1000000 in
theorem z457:world n (d+1) 17 [.agg (z93 x)] H=some (.ret (.int .i64 (z30 x)),H):=by
 apply Wp.eq;rw[z356];refine y36 ?_;unfold z12c;refine y18 (Mem.nil [] H) (ze3 x) fun h2 M2=>?_;have k2:=M2.at0.1;have A:=M2.tch.above;have g0:(z93 x)[0+0]? =some (.int .i64 x.k):=rfl;have g1:(z93 x)[0+1+0]? =some (.int .i64 x.t):=rfl;have g2:(z93 x)[0+1+1]? =some (.int .i64 x.e):=rfl;have g3:(z93 x)[0+3]? =some (.int .i64 x.q):=rfl;have g4:(z93 x)[0+4]? =some (zc x.s):=rfl;have ll:=z2f x.s;refine Wp.obind (z7 _ _ _) (Wp.obind (y5 k2 g0) (Wp.obind (z5 _ _) (Wp.lett (y9 fun j10 e10=>?_))))
 have K10:∀b:Bool,(b=true→¬z16f x)→(b=false→z140 x.k 1048576)→Wp (j10 b h2) fun r h'=>Above H h'∧r.val.scal=true∧r=ARes.ret (.int .i64 (z30 x))∧H=H:=fun b hb1 hb2=>by
  rw[e10];refine y9 fun j16 e16=>?_
  have K16:∀b:Bool,(b=true→¬z16f x)→(b=false→z140 x.k 1048576∧1≤x.t)→Wp (j16 b h2) fun r h'=>Above H h'∧r.val.scal=true∧r=ARes.ret (.int .i64 (z30 x))∧H=H:=fun b hb1 hb2=>by
   rw[e16];refine y9 fun j22 e22=>?_
   have K22:∀b:Bool,(b=true→¬z16f x)→(b=false→z140 x.k 1048576∧z140 x.t 1099511627776)→Wp (j22 b h2) fun r h'=>Above H h'∧r.val.scal=true∧r=ARes.ret (.int .i64 (z30 x))∧H=H:=fun b hb1 hb2=>by
    rw[e22];refine y9 fun j28 e28=>?_
    have K28:∀b:Bool,(b=true→¬z16f x)→(b=false→z140 x.k 1048576∧z140 x.t 1099511627776∧1≤x.e)→Wp (j28 b h2) fun r h'=>Above H h'∧r.val.scal=true∧r=ARes.ret (.int .i64 (z30 x))∧H=H:=fun b hb1 hb2=>by
     rw[e28];refine y9 fun j34 e34=>?_
     have K34:∀b:Bool,(b=true→¬z16f x)→(b=false→z140 x.k 1048576∧z140 x.t 1099511627776∧z140 x.e 1048576)→Wp (j34 b h2) fun r h'=>Above H h'∧r.val.scal=true∧r=ARes.ret (.int .i64 (z30 x))∧H=H:=fun b hb1 hb2=>by
      rw[e34];refine y9 fun j39 e39=>?_
      have K39:∀b:Bool,(b=true→¬z16f x)→(b=false→z140 x.k 1048576∧z140 x.t 1099511627776∧z140 x.e 1048576∧1≤x.q)→Wp (j39 b h2) fun r h'=>Above H h'∧r.val.scal=true∧r=ARes.ret (.int .i64 (z30 x))∧H=H:=fun b hb1 hb2=>by
       rw[e39];refine y9 fun j44 e44=>?_
       have K44:∀b:Bool,(b=true→¬z16f x)→(b=false→z16f x)→Wp (j44 b h2) fun r h'=>Above H h'∧r.val.scal=true∧r=ARes.ret (.int .i64 (z30 x))∧H=H:=fun b hb1 hb2=>by
        rw[e44];unfold z30
        cases b with
        |true=>
         rw[if_neg (hb1 rfl)];exact yc rfl (Wp.ret ⟨A,rfl,rfl,rfl⟩)
        |false=>
         rw[if_pos (hb2 rfl)];refine y8 rfl (Wp.obind (z7 _ _ _) (Wp.obind (y5 k2 g4) (Wp.obind (z12 _) (Wp.lett ?_))))
         by_cases h64:x.s.length>64
         ·rw [if_pos h64]
          exact yc (by rw[decide_eq_true_eq];omega) (Wp.ret ⟨A,rfl,rfl,rfl⟩)
         ·rw [if_neg h64]
          exact y8 (by rw[decide_eq_false_iff_not];omega) (Wp.ret ⟨A,rfl,rfl,rfl⟩)
       cases b with
       |true=>exact yc rfl (K44 true hb1 (fun h=>nomatch h))
       |false=>
        have hb:=hb2 rfl;refine y8 rfl (Wp.obind (z7 _ _ _) (Wp.obind (y5 k2 g3) (Wp.obind (z5 _ _) (Wp.lett (K44 _ (fun h hh=>?_) fun h=>?_)))))
        ·rw [decide_eq_true_eq] at h
         have:=hh.2.2.2.2;omega
        ·rw [decide_eq_false_iff_not] at h
         exact⟨hb.1,hb.2.1,hb.2.2.1,hb.2.2.2,by omega⟩
      cases b with
      |true=>exact yc rfl (K39 true hb1 (fun h=>nomatch h))
      |false=>
       have hb:=hb2 rfl;refine y8 rfl (Wp.obind (z7 _ _ _) (Wp.obind (y5 k2 g3) (Wp.obind (z5 _ _) (Wp.lett (K39 _ (fun h hh=>?_) fun h=>?_)))))
       ·rw [decide_eq_true_eq] at h
        have:=hh.2.2.2.1;omega
       ·rw [decide_eq_false_iff_not] at h
        exact⟨hb.1,hb.2.1,hb.2.2,by omega⟩
     cases b with
     |true=>exact yc rfl (K34 true hb1 (fun h=>nomatch h))
     |false=>
      have hb:=hb2 rfl;refine y8 rfl (Wp.obind (z7 _ _ _) (Wp.obind (z7 _ _ _) (Wp.obind (y5 k2 g2) (Wp.obind (z5 _ _) (Wp.lett (K34 _ (fun h hh=>?_) fun h=>?_))))))
      ·rw [decide_eq_true_eq] at h
       have:=hh.2.2.1.2;omega
      ·rw [decide_eq_false_iff_not] at h
       exact⟨hb.1,hb.2.1,hb.2.2,by omega⟩
    cases b with
    |true=>exact yc rfl (K28 true hb1 (fun h=>nomatch h))
    |false=>
     have hb:=hb2 rfl;refine y8 rfl (Wp.obind (z7 _ _ _) (Wp.obind (z7 _ _ _) (Wp.obind (y5 k2 g2) (Wp.obind (z5 _ _) (Wp.lett (K28 _ (fun h hh=>?_) fun h=>?_))))))
     ·rw [decide_eq_true_eq] at h
      have:=hh.2.2.1.1;omega
     ·rw [decide_eq_false_iff_not] at h
      exact⟨hb.1,hb.2,by omega⟩
   cases b with
   |true=>exact yc rfl (K22 true hb1 (fun h=>nomatch h))
   |false=>
    have hb:=hb2 rfl;refine y8 rfl (Wp.obind (z7 _ _ _) (Wp.obind (z7 _ _ _) (Wp.obind (y5 k2 g1) (Wp.obind (z5 _ _) (Wp.lett (K22 _ (fun h hh=>?_) fun h=>?_))))))
    ·rw [decide_eq_true_eq] at h
     have:=hh.2.1.2;omega
    ·rw [decide_eq_false_iff_not] at h
     exact⟨hb.1,hb.2,by omega⟩
  cases b with
  |true=>exact yc rfl (K16 true hb1 (fun h=>nomatch h))
  |false=>
   have hb:=hb2 rfl;refine y8 rfl (Wp.obind (z7 _ _ _) (Wp.obind (z7 _ _ _) (Wp.obind (y5 k2 g1) (Wp.obind (z5 _ _) (Wp.lett (K16 _ (fun h hh=>?_) fun h=>?_))))))
   ·rw [decide_eq_true_eq] at h
    have:=hh.2.1.1;omega
   ·rw [decide_eq_false_iff_not] at h
    exact⟨hb,by omega⟩
 by_cases c1:x.k<1
 ·exact yc (decide_eq_true c1) (K10 true (fun _ hh=>by have:=hh.1.1;omega) (fun h=>nomatch h))
 ·refine y8 (decide_eq_false c1) (Wp.obind (z7 _ _ _) (Wp.obind (y5 k2 g0) (Wp.obind (z5 _ _) (Wp.lett (K10 _ (fun h hh => ?_) fun h => ?_)))))
  ·rw [decide_eq_true_eq] at h
   have:=hh.1.2;omega
  ·rw [decide_eq_false_iff_not] at h
   exact⟨by omega,by omega⟩
theorem rnumber_w{v:Nat}(hv:v<18446744073709551616):world n (d+1) 64 [.int .u64 (v:Int)] h=some (.ret (.int .i64 (z47b v)),h):=by
 apply Wp.eq;rw[z30d];refine y35 ?_;unfold z107 z47b;refine Wp.lett ?_
 by_cases hc:(v:Int)>1099511627776
 ·rw [if_pos hc]
  exact yc (decide_eq_true hc) (Wp.ret ⟨⟨rfl,rfl⟩,fun _=>⟨rfl,rfl⟩⟩)
 ·rw [if_neg hc]
  exact y8 (decide_eq_false hc) (yd (by omega) (by omega) (Wp.ret ⟨⟨rfl,rfl⟩,fun _=>⟨rfl,rfl⟩⟩))
theorem rframe_w(hn:4096<n)(hx:z11c 5 H.ex=false)(hc:z30 x=0):world n (d+5) 46 [.agg (z93 x)] H=some (.ret (zc (z71 (z17e x))),H):=by
 obtain⟨⟨c0,c1,c2,c3⟩,c4⟩:=zd7 hc;unfold z140 at c0 c1 c2 c3;have hl:=z14e x;apply Wp.eq;rw[z355];refine y36 ?_;unfold z12b;refine y18 (Mem.nil [] H) (ze3 x) fun h2 M2=>?_;have k2:=M2.at0.1;have A:=M2.tch.above;have hx2:z11c 5 h2.ex=false:=by rw[M2.tch.2.1];exact hx
 have g0:(z93 x)[0+0]? =some (.int .i64 x.k):=rfl;have g1:(z93 x)[0+1+0]? =some (.int .i64 x.t):=rfl;have g2:(z93 x)[0+1+1]? =some (.int .i64 x.e):=rfl;have g3:(z93 x)[0+3]? =some (.int .i64 x.q):=rfl;have g4:(z93 x)[0+4]? =some (zc x.s):=rfl;have n1:=zb3 (n:=n) (d:=d+3) (h:=h2) (v:=x.k.toNat) (w:=8) (by omega) (by omega) (by omega) hx2;have n2:=zb3 (n:=n) (d:=d+3) (h:=h2) (v:=x.t.toNat) (w:=8) (by omega) (by omega) (by omega) hx2;have n3:=zb3 (n:=n) (d:=d+3) (h:=h2) (v:=x.e.toNat) (w:=8) (by omega) (by omega) (by omega) hx2;have n4:=zb3 (n:=n) (d:=d+3) (h:=h2) (v:=x.q.toNat) (w:=8) (by omega) (by omega) (by omega) hx2;rw[Int.toNat_of_nonneg (by omega)] at n1 n2 n3 n4;have r4:=z84 (P:=Try.prog) (ty:=9) (by kernel_rfl) (y5 k2 g4);have r3:=z84 (P:=Try.prog) (ty:=3) (by kernel_rfl) (y5 k2 g3);have r2:=z84 (P:=Try.prog) (ty:=3) (by kernel_rfl) (y5 k2 g2);have r1:=z84 (P:=Try.prog) (ty:=3) (by kernel_rfl) (y5 k2 g1);refine Wp.obind (z7 _ _ _) (Wp.obind (y5 k2 g0) (Wp.obind (z5 _ _) (y13 (by omega) (by omega) (Wp.obind (z7 _ _ _) (Wp.obind (z7 _ _ _) (Wp.obind (y5 k2 g1) (Wp.obind (z5 _ _) (y13 (by omega) (by omega) (Wp.obind (z7 _ _ _) (Wp.obind (z7 _ _ _) (Wp.obind (y5 k2 g2) (Wp.obind (z5 _ _) (y13 (by omega) (by omega) (Wp.obind (z7 _ _ _) (Wp.obind (y5 k2 g3) (Wp.obind (z5 _ _) (y13 (by omega) (by omega) (Wp.obind (z7 _ _ _) (Wp.obind (y5 k2 g4) (Wp.obind (z12 _) (Wp.callN n1 (Wp.obind (z12 _) (Wp.chk (ze2 r4 (ze2 r3 (ze2 r2 (ze2 r1 rfl)))) (Wp.callN n2 (Wp.obind (z12 _) (Wp.chk (ze2 r4 (ze2 r3 (ze2 r2 rfl))) (Wp.obind (zfa (by simp only[z1c];omega)) (Wp.callN n3 (Wp.obind (z12 _) (Wp.chk (ze2 r4 (ze2 r3 rfl)) (Wp.obind (zfa (by simp only[List.length_append,z1c];omega)) (Wp.callN n4 (Wp.obind (z12 _) (Wp.chk (ze2 r4 rfl) (Wp.obind (zfa (by simp only[List.length_append,z1c];omega)) (Wp.callN (refText_w (n:=n) (d:=d+2) (by omega) (by omega) hx2) (Wp.obind (z12 _) (Wp.obind (zfa ?_) ?_))))))))))))))))))))))))))))))))))))))
 ·unfold z273
  simp only[List.length_append,z1c];omega
 refine Wp.callN (rput_w (n:=n) (d:=d) (h:=h2) (p:=z17e x) (by omega) (by omega) (by omega) hx2) (Wp.obind (z12 _) (Wp.ret ⟨A,rfl,rfl,rfl⟩))
end
theorem eqFen(a b c e:Int):z102 Try.prog TFen (.agg [.int .i64 a,.int .i64 b]) (.agg [.int .i64 c,.int .i64 e])=some (decide (a=c∧b=e)):=by
 have hf:flatB Try.prog TFen [1,1]=true:=by kernel_rfl
 have he:eqL [1,1] [.int .i64 a,.int .i64 b] [.int .i64 c,.int .i64 e]=some ((a == c)&&((b == e)&&true)):=z46a rfl (z344 _ _ _) (z46a rfl (z344 _ _ _) rfl);rw[eq_flat hf he]
 by_cases h1:a=c
 ·by_cases h2 : b = e
  ·simp[h1,h2]
  ·simp[h2]
 ·simp[h1]
section
variable {n d:Nat}{h H:AHeap}{x:Snd}{p:Bytes}{L:List Snd}{v:AV}{Q:ARes→AHeap→Prop}
theorem z455{rb A i:Nat}{r:RS}{l:List AV}(hn:8<n)(hp:p.length≤1000000)(hl:i<l.length)(kA:RowH H A TTk l)(lA:A<H.next)(k:RR H rb p r)(hr:r.ok p)(lr:rb<H.next)(hne:A≠rb){K:AHeap→R}(hk:∀H',RowH H' A TTk (l.set i (.int .i64 (z47b (z7e p 8 r).1)))→RR H' rb p (z7e p 8 r).2→Tch [rb,A] H H'→Wp (K H') Q):
  Wp (callN (world n (d+2) 65 [.ptr rb 0,.int .i64 8] H) fun r12 h_11=>Abs.obind (z16 .u64 r12) fun t12=>callN (world n (d+2) 64 [.int .u64 t12] h_11) fun r13 h_14=>Abs.obind (z16 .i64 r13) fun t13=>Abs.obind (z22 h_14 1 [.int .i64 t13] (AV.ptr A i)) fun h_17=>K h_17) Q:=by
 obtain⟨h1,e1,k1,t1⟩:=z453 (n:=n) (d:=d+1) k lr hr (w:=8) (W:=8) (by omega) hp hn rfl;have n1:=t1.1;have hlt:(z7e p 8 r).1 <18446744073709551616:=z2d8 (s:=p) (w:=8) (r:=r);have kA1:=kA.tch t1 lA (fun h=>hne (List.mem_singleton.1 h));refine Wp.callN e1 (Wp.obind (z5 _ _) (Wp.callN (rnumber_w (n:=n) (d:=d+1) hlt) (Wp.obind (z5 _ _) (Wp.st1 kA1 hl rfl fun h4 k4 t4 n4=>hk h4 k4 (k1.tch t4 (by omega) (fun h=>hne (List.mem_singleton.1 h).symm)) ((t1.mono fun b hb=>.inl ?_).trans (t4.mono fun b hb=>.inl ?_))))))
 ·rw [List.mem_singleton.1 hb]
  exact List.mem_cons_self ..
 ·exact List.mem_cons_of_mem _ hb
set_option maxHeartbeats 1000000 in
theorem rread_w(hp:p.length≤1000000)(hn:4096<n):∃y,world n (d+3) 43 [zc p] h=some (.ret (.tup [.agg (z93 y),.bool (rdS p).isSome]),h)∧∀x,rdS p=some x→y=x:=by
 refine⟨rdR p,?_,fun x hx=>?_⟩
 rotate_left
 ·obtain ⟨h1, rfl⟩ := z456 hx
  exact(rdR_eq p).2 h1
 apply Wp.eq;rw[z39c];refine y36 ?_;unfold z155;refine y12 (Mem.nil [] h) fun h2 M2=>?_;have ky2:=M2.at0.1;have l2:=M2.at0.2.1;have T2:=M2.tch;refine y18 (Mem.nil [] h2) rfl fun h5 M5=>y12 (Mem.nil [] h5) fun h8 M8=>?_;have k5:RR h5 h2.next p ⟨0,0,0⟩:=M5.at0.1;have l5:=M5.at0.2.1;have T5:=M5.tch;have n5:=T5.1;have k8:=k5.tch M8.tch l5 (fun h=>nomatch h);have kA:=M8.at0.1;have lA:=M8.at0.2.1;have n8:=M8.tch.1;have ky8:=(ky2.tch T5 l2 (fun h=>nomatch h)).tch M8.tch (by omega) (fun h=>nomatch h);have T8:=(T2.trans T5).trans M8.tch;have ok0:RS.ok p ⟨0,0,0⟩:=Nat.zero_le _;refine z455 (d:=d) (by omega) hp (i:=0) (by decide) kA lA k8 ok0 (by omega) (by omega) fun h9 kA9 k9 t9=>?_;have n9:=t9.1;refine z455 (d:=d) (by omega) hp (i:=1) (by rw[List.length_set];decide) kA9 (by omega) k9 (z87 ok0) (by omega) (by omega) fun h10 kA10 k10 t10=>?_;have n10:=t10.1;refine z455 (d:=d) (by omega) hp (i:=2) (by rw[List.length_set,List.length_set];decide) kA10 (by omega) k10 (z87 (z87 ok0)) (by omega) (by omega) fun h11 kA11 k11 t11=>?_;have n11:=t11.1;refine z455 (d:=d) (by omega) hp (i:=3) (by rw[List.length_set,List.length_set,List.length_set];decide) kA11 (by omega) k11 (z87 (z87 (z87 ok0))) (by omega) (by omega) fun h12 kA12 k12 t12=>?_;have n12:=t12.1;have t812:=((t9.trans t10).trans t11).trans t12;have nx2:=T2.1
 have hrb:∀b∈[h2.next,h5.next],h.next≤b:=fun b hb=>by
  rcases List.mem_cons.1 hb with rfl|hb
  ·exact nx2
  ·rw [List.mem_singleton.1 hb]
   omega
 have T12:=T8.trans' t812 fun b hb=>.inr (hrb b hb)
 have ky12:=ky8.tch t812 (by omega) (fun hb=>by
  rcases List.mem_cons.1 hb with hb|hb
  ·omega
  ·have := List.mem_singleton.1 hb
   omega)
 have kA12:RowH h12 h5.next TTk [.int .i64 (z47b (rd1 p).1),.int .i64 (z47b (rd2 p).1),.int .i64 (z47b (rd3 p).1),.int .i64 (z47b (rd4 p).1),.str 0 0]:=kA12;have k12:RR h12 h2.next p (rd4 p).2:=k12;obtain⟨h14,e14,k14,t14⟩:=refText_r (n:=n) (d:=d) k12 (by omega) (z87 (z87 (z87 (z87 ok0)))) (by omega) (by omega) (most:=64) (W:=64) (by omega) rfl;have n14:=t14.1;have kA14:=kA12.tch t14 (by omega) (fun h=>by have:=List.mem_singleton.1 h;omega);have ky14:=ky12.tch t14 (by omega) (fun h=>by have:=List.mem_singleton.1 h;omega);refine Wp.callN e14 (Wp.obind (z12 _) (Wp.st1 kA14 (show 4<5 by decide) rfl fun h15 kA15 t15 n15=>?_));have k15:=k14.tch t15 (by omega) (fun h=>by have:=List.mem_singleton.1 h;omega);have ky15:=ky14.tch t15 (by omega) (fun h=>by have:=List.mem_singleton.1 h;omega);have kA15:RowH h15 h5.next TTk (z93 (rdR p)):=kA15;have T15:Tch [] h h15:=(T12.trans' t14 fun b hb=>.inr (by rw[List.mem_singleton.1 hb];omega)).trans' t15 fun b hb=>.inr (by rw[List.mem_singleton.1 hb];omega);have e16:=refEnd_r (n:=n) (d:=d+1) k15 (by omega);refine Wp.callN e16 (Wp.obind (z64 _ _) (Wp.obind (z5 _ _) (Wp.obind (z63 _ _ _) (Wp.obind (z5 _ _) (y9 fun k60 e60=>Wp.obind (kA15.ldAll rfl) (Wp.lett ?_))))))
 have fin:∀(b:Bool) (h16:AHeap),b=(rdS p).isSome→RowH h16 h.next TTk (z93 (rdR p))→Tch [] h h16→Wp (k60 b h16) fun r h'=>Above h h'∧r.val.scal=true∧r=ARes.ret (.tup [.agg (z93 (rdR p)),.bool (rdS p).isSome])∧h=h:=fun b h16 hb k16 T16=>by
  rw[e60,hb];exact Wp.obind (k16.ldAll rfl) (Wp.ret ⟨T16.above,rfl,rfl,rfl⟩)
 have tn:∀{h16 h17:AHeap},Tch [] h h16→Tch [h.next] h16 h17→Tch [] h h17:=fun T t=>T.trans' t fun b hb=>.inr (by rw[List.mem_singleton.1 hb];exact Nat.le_refl _)
 by_cases hE:(rEnd p (rdT p).2).1=0
 case neg=>
  have hr:(rdS p).isSome=false:=by
   unfold rdS;rw[if_neg (fun hh=>hE hh.1)];rfl
  refine y8 (zc8 hE) (Wp.chk (ze2 (z36c (by kernel_rfl) (by kernel_rfl) (kA15.ldAll rfl)) rfl) (Wp.stAll ky15 rfl rfl rfl fun h17 k17 t17 n17=>fin false h17 hr.symm k17 (tn T15 t17)))
 obtain⟨c1,c2⟩:=rdR_eq p
 have hr:((z30 (rdR p):Int) == 0)=(rdS p).isSome:=by
  unfold rdS;rw[c1]
  by_cases hC:z30 (rdX p)=0
  ·rw [zf7 hC, if_pos ⟨hE, hC⟩]
   rfl
  ·rw [zc8 hC, if_neg (fun hh => hC hh.2)]
   rfl
 refine yc (zf7 hE) (Wp.obind (kA15.ldAll rfl) (Wp.callN (z457 (n:=n) (d:=d+1)) (Wp.obind (z5 _ _) (Wp.chk (ze2 rfl (ze2 (z36c (by kernel_rfl) (by kernel_rfl) (kA15.ldAll rfl)) rfl)) (Wp.lett (Wp.stAll ky15 rfl rfl rfl fun h17 k17 t17 n17=>fin _ h17 hr k17 (tn T15 t17)))))))
theorem z2e0{b0:Nat}{h_2:AHeap}(hb0:h_2.next=b0)(ks:SndAt h v L)(hl:L.length<1000000)(hok:∀x∈L,z30 x=0)(hb:∀b∈z43 v,b≠b0)(lb:b0<h.next){k:Int}{k11:Int→AHeap→R}(hk:∀H,RowH H b0 TFen [.int .i64 (z5a L k).t,.int .i64 (z5a L k).e]→Tch [b0] h H→Wp (k11 ((z5a L k).q+1) H) Q):
  ∀(r i fu:Nat) (H:AHeap),r+i=L.length→r<fu→RowH H b0 TFen [.int .i64 (z5a (L.take i) k).t,.int .i64 (z5a (L.take i) k).e]→Tch [b0] h H→Wp (z116 v k h_2 k11 fu ((z5a (L.take i) k).q+1) (i:Int) H) Q
 |_,_,0,_,_,hf,_,_=>by omega
 |0,i,fu+1,H,hi,_,kf,T=>by
  have hkL:=hk H;rw[z169];unfold zec;rw[List.take_of_length_le (show L.length≤i by omega)] at kf ⊢;exact Wp.obind ks.len (Wp.lett (y8 (by rw[decide_eq_false_iff_not];omega) (hk H kf T)))
 |r+1,i,fu+1,H,hi,hf,kf,T=>by
  have hil:i<L.length:=by omega
  have ks2:=ks.tch T (fun b hbb h=>hb b hbb (List.mem_singleton.1 h))
  obtain⟨c,q1,q2⟩:∃c,z17a 5 v (i:Int)=some (.ptr c (0+i*5))∧RowH H c TTk (zd9 L):=by
   rcases ks2 with⟨_,rfl⟩|⟨c,rfl,h2,h3⟩
   ·cases hil
   ·exact⟨c,z1d8 hil,h2⟩
  have hlen:=z166 L
  have e:zd9 L=zd9 (L.take i)++(z93 L[i]++zd9 (L.drop (i+1))):=by
   have:=z238 (L.take i) (L.drop i);rw[List.take_append_drop] at this;rw[this,List.drop_eq_getElem_cons hil,zd9]
  have hl1:(zd9 (L.take i)).length=0+i*5:=by rw[z166,List.length_take];omega
  have g:∀(j:Nat) (w:AV),(z93 L[i])[j]? =some w→(zd9 L)[0+i*5+j]? =some w:=fun j w hw=>by
   have hj:j<(z93 L[i]).length:=by
    rcases Nat.lt_or_ge j (z93 L[i]).length with h|h
    ·exact h
    ·rw [List.getElem?_eq_none h] at hw
     cases hw
   rw[e, ←hl1,List.getElem?_append_right (by omega),Nat.add_sub_cancel_left,List.getElem?_append_left hj];exact hw
  have hc:c≠b0:=hb c (by
   rcases ks2 with⟨rfl,_⟩|⟨c',rfl,_⟩
   ·cases q1
   ·rw [z1d8 hil] at q1
    cases q1
    exact List.mem_singleton.2 rfl)
  have hqb:=z172 (L:=L.take i) (fun x hx=>hok x (List.mem_of_mem_take hx)) k;obtain⟨⟨_,_,_,hq1,hq2⟩,_⟩:=zd7 (hok _ (List.getElem_mem hil));have hnx:=z497 hil k;rw[z169];unfold zec;refine Wp.obind ks.len (Wp.lett (yc (by rw[decide_eq_true_eq];omega) (Wp.obind q1 (Wp.obind (z7 _ _ _) (Wp.obind (y5 q2 (g 0 _ rfl)) (Wp.obind (z5 _ _) (Wp.lett (y9 fun k33 e33=>?_))))))))
  by_cases hkk:L[i].k=k
  ·rw [if_pos hkk] at hnx
   have hld:z28 H 2 (.ptr c (0+i*5+1))=some [.int .i64 L[i].t,.int .i64 L[i].e]:=by
    rw[q2.ld (by omega),e,show 0+i*5+1=(zd9 (L.take i)).length+1 by omega,List.drop_append,List.drop_of_length_le (Nat.le_succ _),Nat.add_sub_cancel_left,List.nil_append];rfl
   refine yc (zf7 hkk) (Wp.obind q1 (Wp.obind (z7 _ _ _) (Wp.obind hld ?_)));rw[z2d h_2,hb0];refine Wp.stAll kf rfl rfl rfl fun H2 k2 t2 n2=>?_
   have q22:=q2.tch t2 (by
    have:=ks2.lt c
    rcases ks2 with⟨rfl,_⟩|⟨c',rfl,_,h3⟩
    ·cases q1
    ·rw [z1d8 hil] at q1
     cases q1
     exact h3) (fun h=>hc (List.mem_singleton.1 h))
   refine Wp.obind q1 (Wp.obind (z7 _ _ _) (Wp.obind (y5 q22 (g 3 _ rfl)) (Wp.obind (z5 _ _) (yd (by omega) (by omega) ?_))));rw[e33];refine yd (by omega) (by omega) ?_;rw[show (i:Int)+1=((i+1:Nat):Int) by omega,show L[i].q+1=(z5a (L.take (i+1)) k).q+1 by rw[hnx]];exact z2e0 hb0 ks hl hok hb lb hk r (i+1) fu H2 (by omega) (by omega) (by rw[hnx];exact k2) (T.trans t2)
  ·rw [if_neg hkk] at hnx
   refine y8 (zc8 hkk) ?_;rw[e33];refine yd (by omega) (by omega) ?_;rw[show (i:Int)+1=((i+1:Nat):Int) by omega, ←hnx];exact z2e0 hb0 ks hl hok hb lb hk r (i+1) fu H (by omega) (by omega) (by rw[hnx];exact kf) T
theorem rnext_w(ks:SndAt H v L)(hl:L.length<1000000)(hn:1000000<n)(hok:∀x∈L,z30 x=0)(k:Int):∃H',world n (d+1) 29 [v,.int .i64 k] H=some (.ret (.tup [.agg [.int .i64 (z5a L k).t,.int .i64 (z5a L k).e],.int .i64 ((z5a L k).q+1)]),H')∧Tch [] H H':=by
 suffices hK:Wp (world n (d+1) 29 [v,.int .i64 k] H) fun r H'=>r=.ret (.tup [.agg [.int .i64 (z5a L k).t,.int .i64 (z5a L k).e],.int .i64 ((z5a L k).q+1)])∧Tch [] H H' by
  obtain⟨_,H',e,rfl,t⟩:=hK;exact⟨H',e,t⟩
 rw[z39e];unfold z157;refine y12 (Mem.nil [] H) fun h2 M2=>?_;have k2:=M2.at0.1;have l2:=M2.at0.2.1;refine y12 (Mem.nil [] h2) fun h5 M5=>y9 fun k11 e11=>?_;have T5:=M2.tch.trans M5.tch;have n2:=M2.tch.1;have k5:=k2.tch M5.tch l2 (fun h=>nomatch h);have l5:=M5.at0.2.1;have key:=z2e0 (h:=h5) (Q:=fun r H'=>r=.ret (.tup [.agg [.int .i64 (z5a L k).t,.int .i64 (z5a L k).e],.int .i64 ((z5a L k).q+1)])∧Tch [] H H') (b0:=h2.next) (h_2:=h2) rfl (ks.tch T5 (fun _ _ h=>nomatch h)) hl hok (fun b hb=>by have:=ks.lt b hb;omega) l5 (k:=k) (k11:=k11) (fun H1 k1 t1=>?_) L.length 0 n h5 (Nat.add_zero _) (by omega) M5.at0.1 (Tch.refl _ _)
 ·exact key
 have n1:=t1.1;have k51:=k5.tch t1 (by omega) (fun h=>by have:=List.mem_singleton.1 h;omega);rw[e11,z2d h2,z2d H];refine Wp.obind (k1.ldAll rfl) (Wp.stAll k51 rfl rfl rfl fun H2 k22 t22 n22=>Wp.obind (k22.ldAll rfl) (Wp.ret ⟨rfl,(T5.trans' t1 fun b hb=>.inr (by rw[List.mem_singleton.1 hb];omega)).trans' t22 fun b hb=>.inr (by rw[List.mem_singleton.1 hb];exact Nat.le_refl _)⟩))
theorem rmay_w(ks:SndAt H v L)(hl:L.length<1000000)(hn:1000000<n)(hok:∀x∈L,z30 x=0):∃H',world n (d+2) 44 [v,.agg (z93 x)] H=some (.ret (.int .i64 (z3fb L x)),H')∧Tch [] H H':=by
 suffices hK:Wp (world n (d+2) 44 [v,.agg (z93 x)] H) fun r H'=>r=.ret (.int .i64 (z3fb L x))∧Tch [] H H' by
  obtain⟨_,H',e,rfl,t⟩:=hK;exact⟨H',e,t⟩
 rw[z404];unfold z196 z3fb;refine y18 (Mem.nil [] H) (ze3 x) fun h2 M2=>?_;have k2:=M2.at0.1;have l2:=M2.at0.2.1;refine Wp.obind (k2.ldAll rfl) (Wp.callN (z457 (n:=n) (d:=d)) (Wp.obind (z5 _ _) (Wp.lett ?_)))
 by_cases hc:z30 x=0
 case neg=>
  rw[if_pos hc];exact yc (zc7 hc) (Wp.ret ⟨rfl,M2.tch⟩)
 rw[if_neg (by simpa using hc)];obtain⟨h3,e3,t3⟩:=rnext_w (n:=n) (d:=d) (ks.tch M2.tch (fun _ _ h=>nomatch h)) hl hn hok x.k;have k3:=k2.tch t3 l2 (fun h=>nomatch h);have n3:=t3.1;have g0:(z93 x)[0+0]? =some (.int .i64 x.k):=rfl;have g1:(z93 x)[0+1+0]? =some (.int .i64 x.t):=rfl;have g2:(z93 x)[0+1+1]? =some (.int .i64 x.e):=rfl;have g3:(z93 x)[0+3]? =some (.int .i64 x.q):=rfl;refine y8 (z9b hc) (Wp.obind (z7 _ _ _) (Wp.obind (y5 k2 g0) (Wp.obind (z5 _ _) (Wp.callN e3 (Wp.obind (z64 _ _) (Wp.obind (z2b _) (Wp.obind (z63 _ _ _) (Wp.obind (z5 _ _) (y12 (Mem.nil [] h3) fun h4 M4=>?_)))))))));rw[z2d h3];refine y1a M4 rfl rfl rfl fun h5 M5=>?_;have k5:=k3.tch M5.tch (by omega) (fun h=>nomatch h);have T5:=(M2.tch.trans t3).trans M5.tch;refine y1b M5 rfl (Wp.obind (z5 _ _) (Wp.obind (z7 _ _ _) (Wp.obind (z7 _ _ _) (Wp.obind (y5 k5 g1) (Wp.obind (z5 _ _) (Wp.lett (y9 fun j41 e41=>?_)))))))
 have K41:∀b:Bool,b=z305 (z5a L x.k).t (z5a L x.k).e x.t x.e→Wp (j41 b h5) fun r H'=>r=.ret (.int .i64 (z299 L x))∧Tch [] H H':=fun b hb=>by
  rw[e41,hb];unfold z299
  cases z305 (z5a L x.k).t (z5a L x.k).e x.t x.e with
  |true=>
   rw[if_pos rfl];exact yc rfl (Wp.ret ⟨rfl,T5⟩)
  |false=>
   rw[if_neg (by decide)];refine y8 rfl (Wp.obind (z7 _ _ _) (Wp.obind (y5 k5 g3) (Wp.obind (z5 _ _) (Wp.lett ?_))))
   by_cases h:x.q=(z5a L x.k).q+1
   ·rw [if_neg (by simpa using h)]
    exact y8 (z9b h) (Wp.ret ⟨rfl,T5⟩)
   ·rw [if_pos h]
    exact yc (zc7 h) (Wp.ret ⟨rfl,T5⟩)
 unfold z305 at K41
 by_cases ha:(z5a L x.k).t>x.t
 ·exact yc (decide_eq_true ha) (K41 true (by rw[if_pos (by omega),decide_eq_true ha]))
 refine y8 (decide_eq_false ha) (y1b M5 rfl (Wp.obind (z5 _ _) (Wp.obind (z7 _ _ _) (Wp.obind (z7 _ _ _) (Wp.obind (y5 k5 g1) (Wp.obind (z5 _ _) (Wp.lett (y9 fun j40 e40=>?_))))))))
 by_cases hb:(z5a L x.k).t=x.t
 ·refine yc (zf7 hb) (y1b M5 rfl (Wp.obind (z5 _ _) (Wp.obind (z7 _ _ _) (Wp.obind (z7 _ _ _) (Wp.obind (y5 k5 g2) (Wp.obind (z5 _ _) (Wp.lett ?_)))))))
  rw[e40];exact K41 _ (by rw[if_neg (by simpa using hb)])
 ·refine y8 (zc8 hb) ?_
  rw[e40];exact K41 false (by rw[if_pos hb,decide_eq_false ha])
end
abbrev TRJ:Nat:=75
theorem FileOk.mono{x:FileS}{B B':Nat}(k:FileOk x B)(h:B≤B'):FileOk x B':=⟨k.1,k.2.1,Nat.le_trans k.2.2.1 h,Nat.le_trans k.2.2.2 h⟩
theorem own_legal{x:FileS}{c:Chg}(h:z3fa x c=0)(hk:c.k=0∨c.k=1∨c.k=2):z3d3 x.seen c:=by
 unfold z3fa at h
 rcases hk with hk|hk|hk
 ·exact .inl hk
 ·rw [if_neg (by omega)] at h
  split at h
  ·omega
  ·split at h
   ·omega
   ·rename_i h2
    refine .inr (.inl ⟨hk,?_⟩);have:¬(c.n<0∨(x.seen.u.length:Int)<c.n):=fun hh=>h2 ⟨hk,hh⟩;omega
 ·exact .inr (.inr hk)
theorem z44b{p:Int}(h: -1≤p∧p<9223372036854775808): -1≤z92 p∧z92 p<9223372036854775808:=by
 unfold z92
 split<;>omega
theorem SOk.mono{s:DS}{B B':Nat}(k:SOk s B)(h:B≤B'):SOk s B':=⟨fun f hf=>(k.ok f hf).mono h,k.lt,k.hp,Nat.le_trans k.ho h⟩
theorem SOk.act{s:DS}{B:Nat}{z:Int}{c:Chg}(k:SOk s B)(hk:c.k=0∨c.k=1∨c.k=2):SOk (z10f s z c) (B+c.s.length+1):=by
 by_cases h0:z17c s z c=0
 ·have hl := LTS.act (z := z) (c := c) k
  have h1:=h0;rw[z1da] at h1;obtain⟨hp,f,rfl,hf⟩:=z40c h1
  have r0:zcf s.p (f:Int)=0:=by
   unfold zcf;rw[if_neg hp,if_pos (by omega)]
  rw[z1d9 r0] at h0;rw[z304 r0 h0] at hl ⊢;refine⟨fun g hg=>?_,hl,z44b k.hp,by have:=k.ho;show s.ops+1≤_;omega⟩;show FileOk (upd s.fs f (z1d0 (s.fs f) c) g) _
  by_cases e:g=f
  ·rw [e, z1a4]
   exact z45f (k.ok f hf) (own_legal h0 hk)
  ·rw [z3a9 _ _ e]
   exact(k.ok g hg).mono (by omega)
 ·rw [z264 h0]
  exact k.mono (by omega)
theorem SOk.syn{s:DS}{B:Nat}(k:SOk s B)(z:Int):SOk (z1e3 s z) (B+1):=by
 have hl:=LTS.syn k.lt z;unfold z1e3 at hl ⊢
 split
 ·rename_i hz
  rw[if_pos hz] at hl;refine⟨fun g hg=>?_,hl,z44b k.hp,by have:=k.ho;show s.ops+1≤_;omega⟩;show FileOk (upd s.fs z.toNat (synF (s.fs z.toNat)) g) _
  by_cases e:g=z.toNat
  ·rw [e, z1a4]
   exact(synF_ok (k.ok _ (e▸hg))).mono (by omega)
  ·rw [z3a9 _ _ e]
   exact(k.ok g hg).mono (by omega)
 ·exact k.mono (by omega)
theorem SOk.crash{s:DS}{B:Nat}(k:SOk s B)(zs:List Int)(torn:Int):SOk (z2f9 s zs torn) B:=
 ⟨fun f hf => by
  show FileOk (if f<32 then zcc (s.fs f) (z5d zs f) torn else s.fs f) B;rw[if_pos hf];exact z3ee _ _ (k.ok f hf),LTS.crash _ _ _,⟨Int.le_refl _,(show (-1:Int)<9223372036854775808 by decide)⟩,k.ho⟩
def StrAt(H:AHeap)(v:AV)(l:List Bytes):Prop:=(v=.nsl∧l=[])∨∃c,v=.sl c 0 l.length 1∧RowH H c z3fd (l.map zc)∧c<H.next
def scL(s:DS):List Bytes:=(z3d (zb4 s 0)).1
def opL(s:DS):List Snd:=zdb [] (scL s)
def opG(s:DS):Nat:=zf2 [] (scL s)
def opS(s:DS):DS:=if opG s<(zb4 s 0).length then z1e3 (z10f s 0 ⟨1,[],(opG s:Int)⟩) 0 else s
theorem good_le:∀(m:Nat) (u:Bytes) (L:List Snd),u.length≤m→zf2 L (z3d u).1≤u.length
 |m,u,L,hm=>by
  by_cases he:(z27 u).2.2=0
  ·have hl := z13e he
   rw[z1e5 he];show zf2 L ((z27 u).1::(z3d (u.drop (z27 u).2.1)).1)≤_;cases hs:z85 L (z27 u).1 with
   |none=>
    rw[show zf2 L ((z27 u).1::(z3d (u.drop (z27 u).2.1)).1)=0 from (z15e (f:=z85) hs).2];exact Nat.zero_le _
   |some x=>
    rw[show zf2 L ((z27 u).1::(z3d (u.drop (z27 u).2.1)).1)=(z27 u).1.length+12+zf2 (L++[x]) (z3d (u.drop (z27 u).2.1)).1 from (z15d (f:=z85) hs).2]
    match m,hm with
    |0,hm=>omega
    |m+1,hm=>
     have:=good_le m (u.drop (z27 u).2.1) (L++[x]) (by rw[List.length_drop];omega);rw[List.length_drop] at this;omega
  ·rw [z194 he]
   exact Nat.zero_le _
theorem z3c1:∀(ps:List Bytes) (L:List Snd),(zdb L ps).length≤L.length+ps.length
 |[],L=>Nat.le_refl _
 |p::ps,L=>by
  rw[List.length_cons];cases hs:z85 L p with
  |none=>
   rw[show zdb L (p::ps)=L from (z15e (f:=z85) hs).1];omega
  |some x=>
   rw[show zdb L (p::ps)=zdb (L++[x]) ps from (z15d (f:=z85) hs).1];have:=z3c1 ps (L++[x]);rw[List.length_append,List.length_singleton] at this;omega
theorem z454:∀(ps:List Bytes) (L:List Snd),(∀x∈L,z30 x=0)→∀x∈zdb L ps,z30 x=0
 |[],_,h=>h
 |p::ps,L,h=>by
  cases hs:z85 L p with
  |none=>
   rw[show zdb L (p::ps)=L from (z15e (f:=z85) hs).1];exact h
  |some x=>
   rw[show zdb L (p::ps)=zdb (L++[x]) ps from (z15d (f:=z85) hs).1];refine z454 ps (L++[x]) fun y hy=>?_
   rcases List.mem_append.1 hy with hy|hy
   ·exact h y hy
   ·rw [List.mem_singleton.1 hy]
    exact(z456 (z275 hs).1).1
theorem z44e:∀(m:Nat) (u:Bytes),u.length≤m→∀p∈(z3d u).1,p.length≤4096
 |m,u,hm,p,hp=>by
  by_cases he:(z27 u).2.2=0
  ·have hl := z13e he
   rw[z1e5 he] at hp;have hp:p∈(z27 u).1::(z3d (u.drop (z27 u).2.1)).1:=hp
   rcases List.mem_cons.1 hp with rfl|hp
   ·omega
   ·match m, hm with
    |0,hm=>omega
    |m+1,hm=>exact z44e m (u.drop (z27 u).2.1) (by rw[List.length_drop];omega) p hp
  ·rw [z194 he] at hp
   cases hp
theorem opG_le(s:DS):opG s≤(zb4 s 0).length:=good_le _ _ [] (Nat.le_refl _)
theorem opL_len(s:DS):(opL s).length*12≤(zb4 s 0).length:=by
 have h1:=z3c1 (scL s) [];have h2:(scL s).length*12≤(zb4 s 0).length:=(z2b9 _ (zb4 s 0) (Nat.le_refl _)).2;have h3:(opL s).length≤0+(scL s).length:=h1;omega
theorem opL_ok(s:DS):∀x∈opL s,z30 x=0:=z454 (scL s) [] (fun _ h=>nomatch h)
theorem jcut_ok{s:DS}{g:Nat}(hp:s.p= -1)(hg:g<(zb4 s 0).length):z17c s 0 ⟨1,[],(g:Int)⟩=0∧zcf (z10f s 0 ⟨1,[],(g:Int)⟩).p 0=0∧(z1e3 (z10f s 0 ⟨1,[],(g:Int)⟩) 0).p= -1:=by
 have r0:∀p:Int,p= -1→zcf p ((0:Nat):Int)=0:=fun p h=>by
  unfold zcf;rw[if_neg (by omega),if_pos (by omega)]
 have hrs:zb4 s 0=if (s.fs 0).seen.th=true then (s.fs 0).seen.u else []:=by
  unfold zb4;rw[if_pos (show zcf s.p 0=0 from r0 _ hp)];rfl
 have hth:(s.fs 0).seen.th=true:=by
  cases h:(s.fs 0).seen.th with
  |true=>rfl
  |false=>
   rw[h] at hrs;have hrs:zb4 s 0=[]:=hrs;rw[hrs] at hg;cases hg
 rw[if_pos hth] at hrs
 have hown:z3fa (s.fs 0) ⟨1,[],(g:Int)⟩=0:=by
  unfold z3fa;rw[if_neg (by show ¬(1:Nat)=0;decide),if_neg (by rw[hth];decide),if_neg]
  rintro ⟨_,h⟩
  have h:(g:Int)<0∨((s.fs 0).seen.u.length:Int)<(g:Int):=h;rw[hrs] at hg;omega
 have hE0:z17c s ((0:Nat):Int) ⟨1,[],(g:Int)⟩=0:=(z1d9 (r0 _ hp)).trans hown;have ha:z10f s ((0:Nat):Int) ⟨1,[],(g:Int)⟩=_:=z304 (c:=⟨1,[],(g:Int)⟩) (r0 _ hp) hown;have ha:z10f s 0 ⟨1,[],(g:Int)⟩=⟨upd s.fs 0 (z1d0 (s.fs 0) ⟨1,[],(g:Int)⟩),z92 s.p,s.ops+1⟩:=ha;have hsp:z92 s.p= -1:=by rw[hp];rfl
 refine⟨hE0,?_,?_⟩
 ·rw [ha]
  exact r0 _ hsp
 ·rw [ha]
  unfold z1e3;rw[if_pos (show zcf (z92 s.p) 0=0 from r0 _ hsp)];show z92 (z92 s.p)= -1;rw[hsp];rfl
theorem SOk.opS{s:DS}{B:Nat}(k:SOk s B):SOk (opS s) (B+2):=by
 unfold Go.Proofs.Ytbhblbffdmiepaa.opS
 split
 ·exact((k.act (.inr (.inl rfl))).syn 0).mono (by show B+0+1+1≤B+2;omega)
 ·exact k.mono (by omega)
structure RJ (H:AHeap) (yb rb:Nat) (lv:AV) (L:List Snd) (br:Int):Prop where
 row:RowH H yb TRJ [.ptr rb 0,lv,.int .i64 br]
 hyb:yb<H.next
 sl:SndAt H lv L
 nz:lv=.nsl∨L≠[]
section
variable {n d D db rb yb B:Nat}{lo lo':Nat→Prop}{h H H':AHeap}{s:DS}{v pv lv:AV}{l:List Bytes}{L:List Snd}{br:Int}{x:Snd}{Q:ARes→AHeap→Prop}
theorem Sli.strAt{e:Nat}(k:Sli z3fd 1 e H v (z4b5 l)):StrAt H v l∧∀b∈z43 v,e≤b∧b<H.next:=by
 have hf:(z4b5 l).flatten=l.map zc:=z381 zc l
 rcases k.2 with⟨h1,rfl⟩|⟨c,_,rfl,h3,h4,h5⟩
 ·cases l with
  |nil=>exact⟨.inl ⟨rfl,rfl⟩,fun _ h=>nomatch h⟩
  |cons a l=>cases h1
 ·rw [hf] at h5
  exact⟨.inr ⟨c,by rw[show (z4b5 l).length=l.length from List.length_map ..],h5,h4⟩,fun b hb=>by rw[List.mem_singleton.1 hb];exact⟨h3,h4⟩⟩
theorem StrAt.tch{S:List Nat}(k:StrAt H v l)(t:Tch S H H')(hS:∀b∈z43 v,b ∉ S):StrAt H' v l:=by
 rcases k with k|⟨c,rfl,h2,h3⟩
 ·exact .inl k
 ·exact .inr ⟨c,rfl,h2.tch t h3 (hS c (List.mem_singleton.2 rfl)),Nat.lt_of_lt_of_le h3 t.1⟩
theorem StrAt.len(k:StrAt H v l):z18e v=some (l.length:Int):=by
 rcases k with⟨rfl,rfl⟩|⟨c,rfl,_⟩<;>rfl
theorem StrAt.at(k:StrAt H v l){i:Nat}(hi:i<l.length):∃p,z17a 1 v (i:Int)=some p∧ze H p=some (zc l[i]):=by
 rcases k with⟨_,rfl⟩|⟨c,rfl,h5,_⟩
 ·cases hi
 ·refine ⟨.ptr c (0 + i * 1), z1d8 hi, (y5 h5 ?_)⟩
  rw[show 0+i*1=i by omega,List.getElem?_map,List.getElem?_eq_getElem hi];rfl
theorem RJ.ne(J:RJ H yb rb lv L br):yb ∉ z43 lv:=fun hb=>by
 rcases J.sl with⟨rfl,_⟩|⟨c,rfl,hr,_⟩
 ·cases hb
 ·exact y3e J.row hr (by decide) (List.mem_singleton.1 hb)
theorem RJ.tch{S:List Nat}(J:RJ H yb rb lv L br)(t:Tch S H H')(h1:yb ∉ S)(h2:∀b∈z43 lv,b ∉ S):RJ H' yb rb lv L br:=
 ⟨J.row.tch t J.hyb h1,Nat.lt_of_lt_of_le J.hyb t.1,J.sl.tch t h2,J.nz⟩
theorem RJ.push(J:RJ H yb rb lv L br){b1:Nat}(kr:RowH H b1 TTk (z93 x))(hm:L.length<10000000)(hx:H.ex=[]){K:AHeap→R}(hk:∀H',RJ H' yb rb (.sl H.next 0 (L.length+1) 5) (L++[x]) br→Tch (yb::z43 lv) H H'→Wp (K H') Q):
  Wp (outK (z34 Try.prog H z2b6 z2b6 lv (.sl b1 0 1 5)) fun v65 h_88=>Abs.obind (z39 (.ptr yb 0)) fun t66=>Abs.obind (z21 1 t66) fun t67=>Abs.obind (z22 h_88 1 (AV.cells v65) t67) fun h_92=>K h_92) Q:=by
 obtain⟨h4,e4,s4,t4⟩:=J.sl.push (c:=x) kr hm hx;have hyb:=J.hyb;have n4:=t4.1;have r4:=J.row.tch t4 hyb J.ne;refine Wp.outK e4 (Wp.obind (z10 _ _) (Wp.obind (z7 _ _ _) (Wp.st1 r4 (show 0+1<3 by decide) rfl fun h5 r5 t5 n5=>hk h5 ⟨r5,by omega,s4.tch t5 (fun b hb h=>?_),.inr (by simp)⟩ ((t4.mono fun b hb=>.inl (List.mem_cons_of_mem _ hb)).trans (t5.mono fun b hb=>.inl (by rw[List.mem_singleton.1 hb];exact List.mem_cons_self ..))))));have h1:=List.mem_singleton.1 hb;have h2:=List.mem_singleton.1 h;omega
set_option maxHeartbeats 2000000 in
theorem z32b(hn:1000000<n)(hx:h.ex=[])(hy0:yb<h.next)(hpv:∀b∈z43 pv,b<h.next)(hnp:yb ∉ z43 pv)(hl:l.length<1000000)(hlp:∀p∈l,p.length≤1000000)(ks:StrAt h pv l){k30:Int→AHeap→R}{T:List Snd}{g:Nat}(hg:g<1000000000)(hk:∀H' lv,RJ H' yb rb lv T 0→(∀b∈z43 lv,h.next≤b)→Tch [yb] h H'→Wp (k30 (g:Int) H') Q):
  ∀(rest:List Bytes) (i fu t:Nat) (H:AHeap) (L:List Snd) (lv:AV),l.drop i=rest→rest.length<fu→zdb L rest=T→t+zf2 L rest=g→(∀x∈L,z30 x=0)→L.length≤i→RJ H yb rb lv L 0→(∀b∈z43 lv,h.next≤b)→Tch [yb] h H→
   Wp (z115 (world n (d+3)) (.ptr yb 0) pv k30 fu (t:Int) (i:Int) H) Q
 |_,_,0,_,_,_,_,_,hf,_,_,_,_,_,_,_=>by omega
 |[],i,fu+1,t,H,L,lv,hd,hf,c1,c2,hok,hLi,J,hlv,T0=>by
  have:=dropN hd;have ks2:=ks.tch T0 (fun b hb h=>hnp (List.mem_singleton.1 h▸hb));rw[z168];unfold zeb;refine Wp.obind ks2.len (Wp.lett (y8 (by rw[decide_eq_false_iff_not];omega) ?_));have c1:L=T:=c1;have c2:t+0=g:=c2;subst c1;rw[show (t:Int)=(g:Int) by omega];exact hk H lv J hlv T0
 |p::rest,i,fu+1,t,H,L,lv,hd,hf,c1,c2,hok,hLi,J,hlv,T0=>by
  obtain⟨hi,hci,hd2⟩:=dropC hd;rw[List.length_cons] at hf;have ks2:=ks.tch T0 (fun b hb h=>hnp (List.mem_singleton.1 h▸hb));obtain⟨q,q1,q2⟩:=ks2.at hi;rw[hci] at q2;have hp:p.length≤1000000:=hlp p (hci▸List.getElem_mem hi);obtain⟨y,ey,hy⟩:=rread_w (n:=n) (d:=d) (h:=H) hp (by omega);have hyb:=J.hyb;have nT:=T0.1;rw[z168];unfold zeb;refine Wp.obind ks2.len (Wp.lett (yc (by rw[decide_eq_true_eq];omega) (Wp.obind q1 (Wp.obind q2 (Wp.obind (z12 _) (Wp.callN ey (Wp.obind (z64 _ _) (Wp.obind (z2b _) (Wp.obind (z63 _ _ _) (Wp.obind (z13 _) (y12 (Mem.nil [] H) fun h2 M2=>?_)))))))))));rw[z2d H];refine y1a M2 rfl rfl (ze3 y) fun h3 M3=>y9 fun k78 e78=>Wp.lett ?_;have k3:=M3.at0.1;have l3:=M3.at0.2.1;have t3:=M3.tch;have n3:=t3.1;have J3:=J.tch t3 (fun h=>nomatch h) (fun _ _ h=>nomatch h)
  -- it is none that comes next
  have bad:∀h4,z85 L p=none→Tch [] H h4→Wp (k78 true h4) Q:=fun h4 hs t4=>by
   rw[show zdb L (p::rest)=L from (z15e (f:=z85) hs).1] at c1;rw[show zf2 L (p::rest)=0 from (z15e (f:=z85) hs).2] at c2;subst c1;rw[e78];refine yc rfl ?_;rw[show (t:Int)=(g:Int) by omega];exact hk h4 lv (J.tch t4 (fun h=>nomatch h) (fun _ _ h=>nomatch h)) hlv (T0.trans (t4.mono fun _ h=>nomatch h))
  cases hr:rdS p with
  |none=>
   exact yc rfl (bad h3 (by unfold z85;rw[hr];rfl) t3)
  |some x=>
   obtain rfl:=hy x hr
   have hcx:=(z456 hr).1;have g1:[AV.ptr rb 0,lv,.int .i64 0][0+1]? =some lv:=rfl;obtain⟨h5,e5,t5⟩:=rmay_w (n:=n) (d:=d+1) (x:=y) J3.sl (by omega) hn hok;have n5:=t5.1;have T5:=t3.trans t5;have k5:=k3.tch t5 l3 (fun h=>nomatch h);have J5:=J3.tch t5 (fun h=>nomatch h) (fun _ _ h=>nomatch h);refine y8 rfl (Wp.obind (z10 _ _) (Wp.obind (z7 _ _ _) (Wp.obind (y5 J3.row g1) (Wp.obind (k3.ldAll rfl) (Wp.callN e5 (Wp.obind (z5 _ _) (Wp.lett ?_)))))))
   have hmy:z3fb L y=z299 L y:=by
    unfold z3fb;rw[if_neg (by simpa using hcx)]
   rw[hmy]
   by_cases hrf:z299 L y=0
   case neg=>
    rw[zc7 hrf];refine bad h5 ?_ T5;unfold z85;rw[hr,Option.bind_some,if_neg hrf]
   have hs:z85 L p=some y:=by
    unfold z85;rw[hr,Option.bind_some,if_pos hrf]
   rw[show zdb L (p::rest)=zdb (L++[y]) rest from (z15d (f:=z85) hs).1] at c1;rw[show zf2 L (p::rest)=p.length+12+zf2 (L++[y]) rest from (z15d (f:=z85) hs).2] at c2;rw[z9b hrf,e78];refine y8 rfl (Wp.obind (z10 _ _) (Wp.obind (z7 _ _ _) (Wp.obind (y5 J5.row g1) (Wp.obind (k5.ldAll rfl) (y23 (Mem.nil [] h5) (bldTk _ _ _ _ _ _) rfl (by rw[T5.2.1,T0.2.1,hx];rfl) fun h6 M6=>?_)))));have t6:=M6.tch;have n6:=t6.1;have J6:=J5.tch t6 (fun h=>nomatch h) (fun _ _ h=>nomatch h);refine Wp.chk (ze2 rfl (ze2 (z84 (by kernel_rfl) (y5 J6.row g1)) rfl)) (J6.push (x:=y) M6.at0.1 (by omega) (by rw[t6.2.1,T5.2.1,T0.2.1,hx]) fun h7 J7 t7=>?_);have n7:=t7.1
   have T67:Tch [yb] h h7:=((T0.trans (T5.mono fun _ h=>nomatch h)).trans (t6.mono fun _ h=>nomatch h)).trans' t7 fun b hb=>by
    rcases List.mem_cons.1 hb with rfl|hb
    ·exact .inl (List.mem_cons_self ..)
    ·exact .inr (hlv b hb)
   have ks7:=ks.tch T67 (fun b hb h=>hnp (List.mem_singleton.1 h▸hb));obtain⟨q',q1',q2'⟩:=ks7.at hi;rw[hci] at q2';have ll:=z2f p;have hgb:t+(p.length+12)≤g:=by omega
   refine yd (by omega) (by omega) (Wp.obind q1' (Wp.obind q2' (Wp.obind (z12 _) (yd (by omega) (by omega) (yd (by omega) (by omega) ?_)))));rw[show (t:Int)+12+z65 p=((t+(p.length+12):Nat):Int) by omega,show (i:Int)+1=((i+1:Nat):Int) by omega];refine z32b hn hx hy0 hpv hnp hl hlp ks hg hk rest (i+1) fu (t+(p.length+12)) h7 (L++[y]) _ hd2 (by omega) c1 (by omega) (fun z hz=>?_) (by rw[List.length_append,List.length_singleton];omega) J7 (fun b hb=>by rw[List.mem_singleton.1 hb];omega) T67
   rcases List.mem_append.1 hz with hz|hz
   ·exact hok z hz
   ·rw [List.mem_singleton.1 hz]
    exact hcx
end
def addJ(s:DS)(L:List Snd)(br:Int)(x:Snd)(u:Bytes):Int×List Snd×Int×DS:=
 if br≠0 then (br,L,br,s) else if z3fb L x≠0 then (z3fb L x,L,br,s)
 else if z17c s 0 (chA u)≠0 then (z17c s 0 (chA u),L,z17c s 0 (chA u),z10f s 0 (chA u))
 else if zcf (z10f s 0 (chA u)).p 0≠0 then (zcf (z10f s 0 (chA u)).p 0,L,zcf (z10f s 0 (chA u)).p 0,z1e3 (z10f s 0 (chA u)) 0)
 else (0,L++[x],0,z1e3 (z10f s 0 (chA u)) 0)
theorem z41f{L:List Snd}{x:Snd}(h:z3fb L x=0):z30 x=0∧z299 L x=0:=by
 unfold z3fb at h
 split at h
 ·rename_i hc
  exact absurd h hc
 ·rename_i hc
  exact⟨by simpa using hc,h⟩
theorem bldRJ(rb:Nat):z392 Try.prog TRJ [(0,.ptr rb 0)]=some [.ptr rb 0,.nsl,.int .i64 0]:=by kernel_rfl
section
variable {n d D db rb yb B:Nat}{lo lo':Nat→Prop}{h H H':AHeap}{s:DS}{v pv lv:AV}{L:List Snd}{br:Int}{x:Snd}{u:Bytes}{Q:ARes→AHeap→Prop}
theorem append_nil(hex:z11c TTk H.ex=false):z34 Try.prog H z2b6 z2b6 .nsl .nsl=some (.val .nsl,H):=by
 have he:Abs.elemOf Try.prog z2b6=some TTk:=by kernel_rfl
 have hu:z128 Try.prog z2b6=true:=by kernel_rfl
 have hf0:zcd Try.prog TTk 0=true:=by kernel_rfl
 have hl:z282 .nsl=some 0:=rfl;have hf:z124 H (Try.prog.cellsOf TTk) 0 .nsl=some []:=rfl;unfold z128 at hu;unfold z34
 split at hu
 ·cases hu
 ·rename_i ud hni heq
  simp only[he,hl,heq,hf,Nat.zero_add,hf0,List.all_nil,hex,and_self,if_true];rfl
 ·cases hu
theorem z3b1:∀l:List Snd,(zd9 l).all AV.one=true
 |[]=>rfl
 |c::l=>by rw[zd9,List.all_append,ze3,z3b1 l];rfl
theorem SndAt.copy(k:SndAt H v L)(h0:v=.nsl∨L≠[])(hm:L.length<10000000)(hx:H.ex=[]):∃v' H',z34 Try.prog H z2b6 z2b6 .nsl v=some (.val v',H')∧SndAt H' v' L∧(v'=.nsl∨L≠[])∧Tch [] H H'∧∀b∈z43 v',H.next≤b:=by
 have he:Abs.elemOf Try.prog z2b6=some TTk:=by kernel_rfl
 have hu:z128 Try.prog z2b6=true:=by kernel_rfl
 have hsz:Try.prog.cellsOf TTk=5:=by kernel_rfl
 have hex:z11c TTk H.ex=false:=by rw[hx];rfl
 rcases k with⟨rfl,rfl⟩|⟨c,rfl,h2,h3⟩
 ·exact⟨.nsl,H,append_nil hex,.inl ⟨rfl,rfl⟩,.inl rfl,Tch.refl _ _,fun _ h=>nomatch h⟩
 ·have hL : L ≠ [] := h0.resolve_left (fun h => nomatch h)
  obtain⟨m,hml⟩:∃m,L.length=m+1:=⟨L.length - 1,by have:=List.length_pos_iff.2 hL;omega⟩;have hcl:=z166 L
  have hf:z124 H 5 (m+1) (.sl c 0 L.length 5)=some (zd9 L):=by
   rw[z123 (by omega)];have:=h2.part (o:=0) (n:=(zd9 L).length) (by omega);rw[List.drop_zero,List.take_length] at this;rw[show (m+1)*5=(zd9 L).length by omega];exact this
  have a1:=z137 (P:=Try.prog) (h:=H) (t:=z2b6) (u:=z2b6) (n:=m) (x:=.sl c 0 L.length 5) he hu hsz (by rw[hml];rfl) hf (z4c fitTk (by omega) (by omega)) (z3b1 L) hex;refine⟨_,_,a1,.inr ⟨H.next,by rw[hml],RowH.new _ _ _,Nat.lt_succ_self _⟩,.inr hL,Tch.newH _ _ _ _,fun b hb=>?_⟩;rw[List.mem_singleton.1 hb];exact Nat.le_refl _
theorem RefAt.less{lo lo':Nat→Prop}(k:RefAt lo h rb s)(hl:∀b,lo' b→b<h.next→lo b):RefAt lo' h rb s:=k.tch (Tch.refl [] h) (fun _ h=>nomatch h) hl
set_option maxHeartbeats 2000000 in
theorem ropen_w(hn:1000000000<n)(V:RefAt lo h rb s)(ho:SOk s B)(hB:B<400000)(hx:h.ex=[])(hp:s.p= -1):
  ∃H' yb lv,world n (d+7) 20 [.ptr rb 0] h=some (.ret (.tup [.ptr yb 0,.int .i64 0]),H')∧RJ H' yb rb lv (opL s) 0∧h.next≤yb∧(∀b∈z43 lv,h.next≤b)∧Tch [rb] h H'∧RefAt (fun b=>shr lo h.next H'.next b∨b=yb∨b∈z43 lv) H' rb (opS s):=by
 suffices hK:Wp (world n (d+7) 20 [.ptr rb 0] h) fun r H'=>∃yb lv,r=.ret (.tup [.ptr yb 0,.int .i64 0])∧RJ H' yb rb lv (opL s) 0∧h.next≤yb∧(∀b∈z43 lv,h.next≤b)∧Tch [rb] h H'∧RefAt (fun b=>shr lo h.next H'.next b∨b=yb∨b∈z43 lv) H' rb (opS s) by
  obtain⟨_,H',e,yb,lv,rfl,k⟩:=hK;exact⟨H',yb,lv,e,k⟩
 have r0:zcf s.p ((0:Nat):Int)=0:=by
  unfold zcf;rw[if_neg (by omega),if_pos (by omega)]
 have r0:zcf s.p 0=0:=r0
 have hrl:(zb4 s 0).length≤B:=by
  unfold zb4;rw[if_pos r0]
  split
  ·obtain ⟨o1, _, o3, _⟩ := ho.ok 0 (by omega)
   have:=z134 (s.fs 0).loose (s.fs 0).sure;rw[←o1] at this;show (s.fs 0).seen.u.length≤B;omega
  ·exact Nat.zero_le _
 have hle:=opG_le s;obtain⟨DD,vs,VD⟩:=id V;obtain⟨h2,e2,t2⟩:=read_r (n:=n) (d:=d+2) (by omega) VD ho (by omega) 0;have n2:=t2.1;have hrb:=VD.hrb;rw[z39d];unfold z156;refine Wp.callN e2 (Wp.obind (z64 _ _) (Wp.obind (z12 _) (Wp.obind (z63 _ _ _) (Wp.obind (z5 _ _) (Wp.lett (y9 fun j23 e23=>?_))))))
 have go:Wp (j23 false h2) fun r H'=>∃yb lv,r=.ret (.tup [.ptr yb 0,.int .i64 0])∧RJ H' yb rb lv (opL s) 0∧h.next≤yb∧(∀b∈z43 lv,h.next≤b)∧Tch [rb] h H'∧RefAt (fun b=>shr lo h.next H'.next b∨b=yb∨b∈z43 lv) H' rb (opS s):=by
  rw[e23];refine y8 rfl (Wp.obind (bldRJ rb) (y18 (Mem.nil [] h2) rfl fun h3 M3=>?_));have ky3:=M3.at0.1;have l3:=M3.at0.2.1;have t3:=M3.tch;have n3:=t3.1;have hx3:h3.ex=[]:=by rw[t3.2.1,t2.2.1,hx]
  obtain⟨h4,v4,e4,k4,t4⟩:=rscan_w (n:=n) (d:=d) (s:=zb4 s 0) (h:=h3) (by omega) (by omega) hx3;have n4:=t4.1;obtain⟨ks,bs⟩:=Sli.strAt k4;have T24:=(t2.trans t3).trans t4;have V4:RefAt (fun b=>lo b∨h.next≤b) h4 rb s:=V.tch T24 (fun _ h=>nomatch h) (fun b hb hlt=>hb.resolve_right (by omega));have J4:RJ h4 h2.next rb .nsl [] 0:=⟨ky3.tch t4 l3 (fun h=>nomatch h),by omega,.inl ⟨rfl,rfl⟩,.inl rfl⟩;have hsl:(scL s).length*12≤(zb4 s 0).length:=(z2b9 _ (zb4 s 0) (Nat.le_refl _)).2;have hx4:h4.ex=[]:=by rw[t4.2.1,hx3]
  refine Wp.callN e4 (Wp.obind (z64 _ _) (Wp.obind (z63 _ _ _) (Wp.obind (z5 _ _) (y9 fun k30 e30=>?_))))
  refine z32b (d:=d+3) (h:=h4) (yb:=h2.next) (pv:=v4) (l:=scL s) (T:=opL s) (g:=opG s) (by omega) hx4 (by omega) (fun b hb=>(bs b hb).2) (fun hb=>by
   have:=(bs _ hb).1;omega) (by omega) (fun p hp=>?_) ks (by omega) (fun h5 lv J5 hlv t5=>?_) (scL s) 0 n 0 h4 [] .nsl rfl (by omega) rfl (Nat.zero_add _) (fun _ h=>nomatch h) (Nat.le_refl _) J4 (fun _ h=>nomatch h) (Tch.refl _ _)
  ·have := z44e _ (zb4 s 0) (Nat.le_refl _) p hp
   omega
  have n5:=t5.1;have hx5:h5.ex=[]:=by rw[t5.2.1,hx4]
  have V5:RefAt (fun b=>lo b∨h.next≤b) h5 rb s:=V4.tch t5 (fun b hb=>.inl (by rw[List.mem_singleton.1 hb];exact .inr n2)) (fun _ h _=>h);have ll:=z2f (zb4 s 0);have hyr:h2.next≠rb:=by omega
  have T5:Tch [rb] h h5:=(T24.mono fun _ h=>nomatch h).trans' t5 fun b hb=>.inr (by rw[List.mem_singleton.1 hb];exact n2);rw[e30];refine Wp.lett (y9 fun k35 e35=>?_)
  by_cases hg:opG s<(zb4 s 0).length
  ·obtain ⟨m1, m2, _⟩ := jcut_ok hp hg
   have hS:opS s=z1e3 (z10f s 0 ⟨1,[],(opG s:Int)⟩) 0:=if_pos hg;obtain⟨D5,vs5,VD5⟩:=id V5;obtain⟨h6,e6,t6,V6⟩:=z38d (n:=n) (d:=d+2) (c:=⟨1,[],(opG s:Int)⟩) (by omega) VD5 ho (by omega) hx5 0;have n6:=t6.1;have ho6:=ho.act (z:=0) (c:=⟨1,[],(opG s:Int)⟩) (.inr (.inl rfl));obtain⟨D6,vs6,VD6⟩:=id V6;obtain⟨h7,e7,t7,V7⟩:=sync_r (n:=n) (d:=d+3) (by omega) VD6 ho6 (by show B+0+1<900000;omega) 0;have n7:=t7.1;rw[m1] at e6;rw[m2] at e7;have t67:=t6.trans t7
   have J7:=J5.tch t67 (fun h=>hyr (List.mem_singleton.1 h)) (fun b hb h=>by
    have h1:=hlv b hb;have h2:=List.mem_singleton.1 h;omega)
   refine yc (by rw[decide_eq_true_eq];omega) (Wp.callN e6 (Wp.obind (z5 _ _) (Wp.lett (y9 fun k45 e45=>yc rfl (Wp.callN e7 (Wp.obind (z5 _ _) ?_))))));rw[e45];refine Wp.lett (y8 rfl ?_);rw[e35,hS];refine Wp.ret ⟨h2.next,lv,rfl,J7,n2,fun b hb=>by have:=hlv b hb;omega,T5.trans t67,V7.less fun b hb hlt=>?_⟩;have hb5:∀b,b<h5.next→(b<h6.next∨h7.next≤b)∧(b<h5.next∨h6.next≤b):=fun b hb=>by omega
   rcases hb with hb|hb|hb
   ·exact⟨⟨.inl hb.1,by rcases hb.2 with h|h<;>omega⟩,by rcases hb.2 with h|h<;>omega⟩
   ·have := hb5 b (by omega)
    exact⟨⟨.inr (by omega),this.2⟩,this.1⟩
   ·have := hb5 b (J5.sl.lt b hb)
    have h1:=hlv b hb;exact⟨⟨.inr (by omega),this.2⟩,this.1⟩
  ·have hS : opS s = s := if_neg hg
   refine y8 (by rw[decide_eq_false_iff_not];omega) ?_;rw[e35,hS];refine Wp.ret ⟨h2.next,lv,rfl,J5,n2,fun b hb=>by have:=hlv b hb;omega,T5,V5.less fun b hb hlt=>?_⟩
   rcases hb with hb|hb|hb
   ·exact .inl hb.1
   ·exact .inr (by omega)
   ·have h1 := hlv b hb
    exact .inr (by omega)
 have hre:z16e s 0=0∨z16e s 0=4:=by
  unfold z16e;rw[if_pos r0]
  split
  ·exact .inl rfl
  ·exact .inr rfl
 rcases hre with h0|h4
 ·rw [show (z16e s 0 != 0) = false from z9b h0]
  exact y8 rfl go
 ·rw [show (z16e s 0 != 0) = true from zc7 (by omega)]
  refine yc rfl (Wp.lett ?_);rw[show (z16e s 0 != 4)=false from z9b h4];exact go
set_option maxHeartbeats 2000000 in
theorem radd_w(hn:1000000<n)(V:RefAt lo h rb s)(ho:SOk s B)(hB:B<400000)(hx:h.ex=[])(J:RJ h yb rb lv L br)(hyl:lo yb)(hvl:∀b∈z43 lv,lo b)(hok:∀x∈L,z30 x=0)(hL:L.length<900000)(hu:z71 (z17e x)=u):
  ∃H' lv',world n (d+6) 21 [.ptr yb 0,.agg (z93 x)] h=some (.ret (.int .i64 (addJ s L br x u).1),H')∧RJ H' yb rb lv' (addJ s L br x u).2.1 (addJ s L br x u).2.2.1∧(∀b∈z43 lv',b∈z43 lv∨h.next≤b)∧Tch (rb::yb::z43 lv) h H'∧RefAt (fun b=>shr lo h.next H'.next b∨b∈z43 lv') H' rb (addJ s L br x u).2.2.2:=by
 suffices hK:Wp (world n (d+6) 21 [.ptr yb 0,.agg (z93 x)] h) fun r H'=>∃lv',r=.ret (.int .i64 (addJ s L br x u).1)∧RJ H' yb rb lv' (addJ s L br x u).2.1 (addJ s L br x u).2.2.1∧(∀b∈z43 lv',b∈z43 lv∨h.next≤b)∧Tch (rb::yb::z43 lv) h H'∧RefAt (fun b=>shr lo h.next H'.next b∨b∈z43 lv') H' rb (addJ s L br x u).2.2.2 by
  obtain⟨_,H',e,lv',rfl,k⟩:=hK;exact⟨H',lv',e,k⟩
 have hyr:yb≠rb:=by
  obtain⟨_,_,VD⟩:=id V;exact fun e=>VD.nlo (e▸hyl)
 have hvr:∀b∈z43 lv,b≠rb:=fun b hb e=>by
  obtain⟨_,_,VD⟩:=id V;exact VD.nlo (e▸hvl b hb)
 rw[z20e];unfold z77;refine y18 (Mem.nil [] h) (ze3 x) fun h2 M2=>?_;have k2:=M2.at0.1;have l2:=M2.at0.2.1;have t2:=M2.tch;have J2:=J.tch t2 (fun h=>nomatch h) (fun _ _ h=>nomatch h);have g0:[AV.ptr rb 0,lv,.int .i64 br][0+0]? =some (.ptr rb 0):=rfl;have g1:[AV.ptr rb 0,lv,.int .i64 br][0+1]? =some lv:=rfl;have g2:[AV.ptr rb 0,lv,.int .i64 br][0+2]? =some (.int .i64 br):=rfl
 -- nothing is done
 have same:∀(e:Int) (h3:AHeap),Tch [] h2 h3→addJ s L br x u=(e,L,br,s)→Wp (some (ARes.ret (.int .i64 e),h3)) fun r H'=>∃lv',r=.ret (.int .i64 (addJ s L br x u).1)∧RJ H' yb rb lv' (addJ s L br x u).2.1 (addJ s L br x u).2.2.1∧(∀b∈z43 lv',b∈z43 lv∨h.next≤b)∧Tch (rb::yb::z43 lv) h H'∧RefAt (fun b=>shr lo h.next H'.next b∨b∈z43 lv') H' rb (addJ s L br x u).2.2.2:=fun e h3 t3 he=>by
  have T3:=t2.trans t3;rw[he];refine Wp.ret ⟨lv,rfl,J2.tch t3 (fun h=>nomatch h) (fun _ _ h=>nomatch h),fun b hb=>.inl hb,T3.mono fun _ h=>(nomatch h),V.tch T3 (fun _ h=>nomatch h) fun b hb hlt=>?_⟩
  rcases hb with hb|hb
  ·exact hb.1
  ·exact hvl b hb
 refine Wp.obind (z10 _ _) (Wp.obind (z7 _ _ _) (Wp.obind (y5 J2.row g2) (Wp.obind (z5 _ _) (Wp.lett ?_))))
 by_cases hbr:br=0
 case neg=>
  exact yc (zc7 hbr) (Wp.obind (z10 _ _) (Wp.obind (z7 _ _ _) (Wp.obind (y5 J2.row g2) (Wp.obind (z5 _ _) (same br h2 (Tch.refl _ _) (if_pos hbr))))))
 obtain⟨h3,e3,t3⟩:=rmay_w (n:=n) (d:=d+3) (x:=x) J2.sl (by omega) hn hok;have n3:=t3.1;have k3:=k2.tch t3 l2 (fun h=>nomatch h);have J3:=J2.tch t3 (fun h=>nomatch h) (fun _ _ h=>nomatch h);have T3:=t2.trans t3;have hbr':¬br≠0:=fun h=>h hbr;refine y8 (z9b hbr) (Wp.obind (z10 _ _) (Wp.obind (z7 _ _ _) (Wp.obind (y5 J2.row g1) (Wp.obind (k2.ldAll rfl) (Wp.callN e3 (Wp.obind (z5 _ _) (Wp.lett ?_)))))))
 by_cases hm:z3fb L x=0
 case neg=>
  exact yc (zc7 hm) (same _ h3 t3 ((if_neg hbr').trans (if_pos hm)))
 have hm':¬z3fb L x≠0:=fun h=>h hm;have hc:=(z41f hm).1
 have hul:u.length≤112:=by
  have:=(zd7 hc).2;rw[←hu,z98,z14e];omega
 have hx3:h3.ex=[]:=by rw[T3.2.1,hx]
 have hfr:=rframe_w (n:=n) (d:=d) (x:=x) (H:=h3) (by omega) (by rw[hx3];rfl) hc;rw[hu] at hfr;have V3:RefAt lo h3 rb s:=V.tch T3 (fun _ h=>nomatch h) (fun _ h _=>h);obtain⟨D3,vs3,VD3⟩:=id V3;obtain⟨h4,e4,t4,V4⟩:=z38d (n:=n) (d:=d+1) (c:=chA u) hn VD3 ho (by omega) hx3 0;have n4:=t4.1;have yn:yb ∉ [rb]:=fun h=>hyr (List.mem_singleton.1 h);have vn:∀b∈z43 lv,b ∉ [rb]:=fun b hb h=>hvr b hb (List.mem_singleton.1 h);have J4:=J3.tch t4 yn vn
 have k4:=k3.tch t4 (by omega) (fun h=>by
  have:=List.mem_singleton.1 h;have:=VD3.hrb;obtain⟨_,_,VD⟩:=id V;have:=VD.hrb;omega)
 refine y8 (z9b hm) (Wp.obind (z10 _ _) (Wp.obind (z7 _ _ _) (Wp.obind (y5 J3.row g0) (Wp.obind (k3.ldAll rfl) (Wp.callN hfr (Wp.obind (z12 _) (Wp.chk (ze2 rfl (ze2 (z84 (by kernel_rfl) (y5 J3.row g0)) rfl)) (Wp.callN e4 (Wp.obind (z5 _ _) (Wp.lett (y9 fun k43 e43=>?_)))))))))));have T4:Tch [rb] h h4:=(T3.mono fun _ h=>nomatch h).trans t4;have tmy:∀b∈[rb],b∈rb::yb::z43 lv:=fun b hb=>by rw[List.mem_singleton.1 hb];exact List.mem_cons_self ..
 -- an error
 have bad:∀(e:Int) (s':DS) (h5:AHeap) (lo5:Nat→Prop),e≠0→addJ s L br x u=(e,L,e,s')→RJ h5 yb rb lv L br→Tch [rb] h h5→RefAt lo5 h5 rb s'→(∀b,lo b→b<h.next∨h5.next≤b→b<h5.next→lo5 b)→Wp (k43 e h5) fun r H'=>∃lv',r=.ret (.int .i64 (addJ s L br x u).1)∧RJ H' yb rb lv' (addJ s L br x u).2.1 (addJ s L br x u).2.2.1∧(∀b∈z43 lv',b∈z43 lv∨h.next≤b)∧Tch (rb::yb::z43 lv) h H'∧RefAt (fun b=>shr lo h.next H'.next b∨b∈z43 lv') H' rb (addJ s L br x u).2.2.2:=fun e s' h5 lo5 he ha J5 T5 V5 hlo=>by
  have hyb:=J.hyb;rw[e43,ha];refine Wp.lett (yc (zc7 he) (Wp.obind (z10 _ _) (Wp.obind (z7 _ _ _) (Wp.st1 J5.row (show 0+2<3 by decide) rfl fun h6 k6 t6 n6=>Wp.ret ⟨lv,rfl,⟨k6,by have:=J5.hyb;omega,J5.sl.tch t6 (fun b hb h=>J5.ne (List.mem_singleton.1 h▸hb)),J5.nz⟩,fun b hb=>.inl hb,(T5.mono fun b hb=>.inl (tmy b hb)).trans (t6.mono fun b hb=>.inl (by rw[List.mem_singleton.1 hb];exact List.mem_cons_of_mem _ (List.mem_cons_self ..))),V5.tch t6 (fun b hb=>.inl ?_) fun b hb hlt=>?_⟩))))
  ·rw [List.mem_singleton.1 hb]
   exact hlo yb hyl (.inl hyb) J5.hyb
  ·rcases hb with hb | hb
   ·exact hlo b hb.1 (by have:=hb.2;rw[n6] at this;exact this) hlt
   ·exact hlo b (hvl b hb) (.inl (J.sl.lt b hb)) hlt
 by_cases he:z17c s 0 (chA u)=0
 case neg=>
  refine y8 (zc8 he) (bad _ _ h4 _ he ((if_neg hbr').trans ((if_neg hm').trans (if_pos he))) J4 T4 V4 fun b hb h1 hlt=>⟨hb,by omega⟩)
 have he':¬z17c s 0 (chA u)≠0:=fun h=>h he;have ho4:=ho.act (z:=0) (c:=chA u) (.inl rfl);obtain⟨D4,vs4,VD4⟩:=id V4;obtain⟨h5,e5,t5,V5⟩:=sync_r (n:=n) (d:=d+2) hn VD4 ho4 (by show B+u.length+1<900000;omega) 0;have n5:=t5.1;have J5:=J4.tch t5 yn vn;have T5:Tch [rb] h h5:=T4.trans t5;have hyb:=J.hyb;refine yc (zf7 he) (Wp.obind (z10 _ _) (Wp.obind (z7 _ _ _) (Wp.obind (y5 J4.row g0) (Wp.callN e5 (Wp.obind (z5 _ _) ?_)))))
 by_cases hr:zcf (z10f s 0 (chA u)).p 0=0
 case neg=>
  exact bad _ _ h5 _ hr ((if_neg hbr').trans ((if_neg hm').trans ((if_neg he').trans (if_pos hr)))) J5 T5 V5 fun b hb h1 hlt=>⟨⟨hb,by omega⟩,by omega⟩
 have hr':¬zcf (z10f s 0 (chA u)).p 0≠0:=fun h=>h hr;have ha:addJ s L br x u=(0,L++[x],0,z1e3 (z10f s 0 (chA u)) 0):=(if_neg hbr').trans ((if_neg hm').trans ((if_neg he').trans (if_neg hr')));have hx5:h5.ex=[]:=by rw[T5.2.1,hx]
 have k5:=k4.tch t5 (by omega) (fun h=>by
  have:=List.mem_singleton.1 h;obtain⟨_,_,VD⟩:=id V;have:=VD.hrb;omega)
 obtain⟨v6,h6,e6,s6,z6,t6,b6⟩:=J5.sl.copy J5.nz (by omega) hx5;have n6:=t6.1;have k6:=k5.tch t6 (by omega) (fun h=>nomatch h);have hx6:h6.ex=[]:=by rw[t6.2.1,hx5]
 rw[e43,ha,hr];refine Wp.lett (y8 rfl (Wp.obind (z10 _ _) (Wp.obind (z7 _ _ _) (Wp.obind (y5 J5.row g1) (Wp.outK e6 (Wp.obind (k6.ldAll rfl) (y23 (Mem.nil [] h6) (bldTk _ _ _ _ _ _) rfl (by rw[hx6];rfl) fun h7 M7=>?_)))))));have t7:=M7.tch;have n7:=t7.1;have s7:=s6.tch t7 (fun _ _ h=>nomatch h);have hx7:h7.ex=[]:=by rw[t7.2.1,hx6]
 obtain⟨h8,e8,s8,t8⟩:=s7.push (c:=x) M7.at0.1 (by omega) hx7;have n8:=t8.1
 have r8:=((J5.row.tch t6 J5.hyb (fun h=>nomatch h)).tch t7 (by have:=J5.hyb;omega) (fun h=>nomatch h)).tch t8 (by have:=J5.hyb;omega) (fun h=>by
  have:=b6 _ h;have:=J5.hyb;omega)
 refine Wp.outK e8 (Wp.obind (z10 _ _) (Wp.obind (z7 _ _ _) (Wp.st1 r8 (show 0+1<3 by decide) rfl fun h9 k9 t9 n9=>?_)));have T68:Tch [] h5 h8:=(t6.trans t7).trans' t8 fun b hb=>.inr (b6 b hb);have ls:=s8.lt h7.next (List.mem_singleton.2 rfl);rw[hbr] at k9;refine Wp.ret ⟨_,rfl,⟨k9,by have:=J5.hyb;omega,s8.tch t9 (fun b hb h=>?_),.inr (by simp)⟩,fun b hb=>.inr ?_,((T5.mono fun b hb=>.inl (tmy b hb)).trans (T68.mono fun _ h=>nomatch h)).trans (t9.mono fun b hb=>.inl (by rw[List.mem_singleton.1 hb];exact List.mem_cons_of_mem _ (List.mem_cons_self ..))),V5.tch (T68.mono (S':=[yb]) (fun _ h=>nomatch h) |>.trans t9) (fun b hb=>.inl ?_) fun b hb hlt=>?_⟩
 ·have h1 := List.mem_singleton.1 hb
  have h2:=List.mem_singleton.1 h;omega
 ·rw [List.mem_singleton.1 hb]
  omega
 ·rw [List.mem_singleton.1 hb]
  exact⟨⟨hyl,by omega⟩,by omega⟩
 ·rcases hb with hb | hb
  ·exact⟨⟨hb.1,by rcases hb.2 with h|h<;>omega⟩,by rcases hb.2 with h|h<;>omega⟩
  ·have := List.mem_singleton.1 hb
   omega
end
section
variable {N n d D db jb B:Nat}{lo nb:Nat→Prop}{H H':AHeap}{s:DS}{L:List Snd}{br:Int}{x:Snd}{u:Bytes}
set_option maxHeartbeats 1000000 in
theorem jopen_w(K:At lo H db s B)(hp:s.p= -1)(hn:1000000000<n)(hB:B<700000):
  ∃lo' nb' H' jb S,wL n (D+6) (d+6) false 9 [.ptr db 0] H=some (.ret (.tup [.ptr jb 0,.int .i64 0]),H')∧At lo' H' db (opS s) (B+4)∧JAt nb' H' jb db (opL s) 0∧(∀b,lo' b→lo b)∧(∀b,nb' b→H.next≤b∧¬lo' b∧b<H'.next)∧Tch S H H'∧∀b∈S,lo b:=by
 suffices hK:Wp (z97 (wL n (D+6) (d+5) false) n (.ptr db 0) H) fun r H'=>∃lo' nb' jb S,r=.ret (.tup [.ptr jb 0,.int .i64 0])∧At lo' H' db (opS s) (B+4)∧JAt nb' H' jb db (opL s) 0∧(∀b,lo' b→lo b)∧(∀b,nb' b→H.next≤b∧¬lo' b∧b<H'.next)∧Tch S H H'∧∀b∈S,lo b by
  obtain⟨_,H',e,lo',nb',jb,S,rfl,k⟩:=hK;exact⟨lo',nb',H',jb,S,z1cb n (D+6) (d+5) _ e,k⟩
 have hlen:=K.read_len;have hx:=K.ex;have hle:=opG_le s
 have r0:zcf s.p ((0:Nat):Int)=0:=by
  unfold zcf;rw[if_neg (by omega),if_pos (by omega)]
 have r0:zcf s.p 0=0:=r0;unfold z97;refine Wp.callN ((z22a 31).trans (read_a (n:=n) (d:=D+3) (z:=0) K)) (Wp.obind (z64 _ _) (Wp.obind (z12 _) (Wp.obind (z63 _ _ _) (Wp.obind (z5 _ _) (Wp.lett (y9 fun j20 e20=>?_))))))
 have go:Wp (j20 false H) fun r H'=>∃lo' nb' jb S,r=.ret (.tup [.ptr jb 0,.int .i64 0])∧At lo' H' db (opS s) (B+4)∧JAt nb' H' jb db (opL s) 0∧(∀b,lo' b→lo b)∧(∀b,nb' b→H.next≤b∧¬lo' b∧b<H'.next)∧Tch S H H'∧∀b∈S,lo b:=by
  rw[e20];refine y8 rfl (y9 fun h2 e2=>Wp.obind (bldJou db H.next) ?_);have t2:Tch [] H h2:=by rw[e2];exact Tch.new _ _ _
  have l2:H.next<h2.next:=by rw[e2];exact Nat.lt_succ_self _
  have g2:h2.get H.next=some (.map (mtE [])):=by rw[e2];exact y17 _ _ _
  refine y18 (Mem.nil [] h2) rfl fun h3 M3=>?_;have t3:=M3.tch;have l3:=M3.at0.2.1;have D0:JD h3 h2.next db .nsl H.next [] [] 0:=⟨M3.at0.1,l3,.inl ⟨rfl,rfl⟩,(t3.2.2 _ l2 (fun h=>nomatch h)).trans g2,by omega,fun _=>rfl⟩;obtain⟨h4,e4,J4,t4⟩:=jread_w (n:=n) (D:=D) (d:=d) (u:=zb4 s 0) D0 (by rw[t3.2.1,t2.2.1,hx]) (by omega) hn;have J4:JAt (fun b=>b=h2.next∨b=H.next∨h3.next≤b) h4 h2.next db (opL s) 0:=J4;have e4:wL n (D+6) (d+5) false 32 [.ptr h2.next 0,zc (zb4 s 0)] h3=some (.ret (.int .i64 ((opG s:Nat):Int)),h4):=e4;have n4:=t4.1
  have T4:Tch [] H h4:=(t2.trans t3).trans' t4 fun b hb=>.inr (by
   rcases List.mem_cons.1 hb with rfl|hb
   ·omega
   ·rw [List.mem_singleton.1 hb]
    exact Nat.le_refl _)
  have K4:=K.part T4 (fun _ h=>nomatch h);have ll:=z2f (zb4 s 0);have J4':=J4.cut
  have hsep:∀b,((b=h2.next∨b=H.next∨h3.next≤b)∧b<h4.next)→H.next≤b∧b<h4.next:=fun b hb=>by
   rcases hb with⟨hb|hb|hb,h⟩<;>omega
  refine Wp.callN e4 (Wp.obind (z5 _ _) (Wp.lett ?_))
  by_cases hg:opG s<(zb4 s 0).length
  ·obtain ⟨d1, d2, _⟩ := jcut_ok hp hg
   have hS:opS s=z1e3 (z10f s 0 ⟨1,[],(opG s:Int)⟩) 0:=if_pos hg;obtain⟨h5,S5,e5,K5,t5,hS5⟩:=cut_ok (n:=n) (d:=D+3) (z:=0) (m:=(opG s:Int)) (by omega) K4 (by omega);obtain⟨h6,S6,e6,K6,t6,hS6⟩:=z35d (n:=n) (d:=D+3) (z:=0) (by omega) K5 (by omega);rw[d1] at e5;rw[d2] at e6;have t56:Tch (S5++S6) h4 h6:=(t5.mono fun b hb=>.inl (List.mem_append_left _ hb)).trans (t6.mono fun b hb=>.inl (List.mem_append_right _ hb));have hS':∀b∈S5++S6,lo b∧(b<H.next∨h4.next≤b):=fun b hb=>(List.mem_append.1 hb).elim (hS5 b) (hS6 b)
   have J6:=J4'.tch t56 (fun b hb hh=>by
    have h1:=hsep b hh
    rcases(hS' b hb).2 with h|h<;>omega)
   have n6:=t56.1;refine y8 (zc8 (by omega)) (Wp.callN ((z22a 33).trans e5) (Wp.obind (z5 _ _) (Wp.lett (y8 rfl (Wp.callN ((z22a 34).trans e6) (Wp.obind (z5 _ _) (Wp.lett (y8 rfl (Wp.ret ⟨shr lo H.next h4.next,_,h2.next,S5++S6,rfl,by rw[hS];exact K6.mono (by omega),J6,fun b hb=>hb.1,fun b hb=>?_,(T4.mono fun _ h=>nomatch h).trans t56,fun b hb=>(hS' b hb).1⟩)))))))));have:=hsep b hb;exact⟨this.1,fun h=>by rcases h.2 with h|h<;>omega,by omega⟩
  ·have hS : opS s = s := if_neg hg
   refine yc (zf7 (by omega)) (Wp.ret ⟨shr lo H.next h4.next,_,h2.next,[],rfl,by rw[hS];exact K4.mono (by omega),J4',fun b hb=>hb.1,fun b hb=>⟨(hsep b hb).1,fun h=>by have:=hsep b hb;rcases h.2 with h|h<;>omega,(hsep b hb).2⟩,T4,fun _ h=>nomatch h⟩)
 have hre:z16e s 0=0∨z16e s 0=4:=by
  unfold z16e;rw[if_pos r0]
  split
  ·exact .inl rfl
  ·exact .inr rfl
 rcases hre with h0|h4
 ·rw [show (z16e s 0 != 0) = false from z9b h0]
  exact y8 rfl go
 ·rw [show (z16e s 0 != 0) = true from zc7 (by omega)]
  refine yc rfl (Wp.lett ?_);rw[show (z16e s 0 != 4)=false from z9b h4];exact go
set_option maxHeartbeats 2000000 in
theorem jadd_w(K:At lo H db s B)(J:JAt nb H jb db L br)(sep:∀b,nb b→¬lo b∧b<H.next)(hok:∀x∈L,z30 x=0)(hL:L.length<900000)(hn:1000000<n)(hB:B<500000)(hs:x.s.length≤1000000000)(hu:z71 (z17e x)=u):
  ∃lo' nb' H' S,wL n (D+6) (d+1) false 11 [.ptr jb 0,.agg (z93 x)] H=some (.ret (.int .i64 (addJ s L br x u).1),H')∧At lo' H' db (addJ s L br x u).2.2.2 (B+200)∧JAt nb' H' jb db (addJ s L br x u).2.1 (addJ s L br x u).2.2.1∧(∀b,lo' b→lo b)∧(∀b,nb' b→(nb b∨H.next≤b)∧¬lo' b∧b<H'.next)∧Tch S H H'∧∀b∈S,lo b∨nb b:=by
 suffices hK:Wp (world n (D+6) 11 [.ptr jb 0,.agg (z93 x)] H) fun r H'=>∃lo' nb' S,r=.ret (.int .i64 (addJ s L br x u).1)∧At lo' H' db (addJ s L br x u).2.2.2 (B+200)∧JAt nb' H' jb db (addJ s L br x u).2.1 (addJ s L br x u).2.2.1∧(∀b,lo' b→lo b)∧(∀b,nb' b→(nb b∨H.next≤b)∧¬lo' b∧b<H'.next)∧Tch S H H'∧∀b∈S,lo b∨nb b by
  obtain⟨_,H',e1,lo',nb',S,rfl,k⟩:=hK;exact⟨lo',nb',H',S,(z22a 11).trans e1,k⟩
 have hx:=K.ex;rw[z13d];unfold z50;refine y18 (Mem.nil [] H) (ze3 x) fun h2 M2=>?_;have k2:=M2.at0.1;have l2:=M2.at0.2.1;have t2:=M2.tch;have J2:=J.tch t2 (fun _ h=>nomatch h)
 -- nothing is done
 have same:∀(e:Int) (h3:AHeap),Tch [] h2 h3→addJ s L br x u=(e,L,br,s)→Wp (some (ARes.ret (.int .i64 e),h3)) fun r H'=>∃lo' nb' S,r=.ret (.int .i64 (addJ s L br x u).1)∧At lo' H' db (addJ s L br x u).2.2.2 (B+200)∧JAt nb' H' jb db (addJ s L br x u).2.1 (addJ s L br x u).2.2.1∧(∀b,lo' b→lo b)∧(∀b,nb' b→(nb b∨H.next≤b)∧¬lo' b∧b<H'.next)∧Tch S H H'∧∀b∈S,lo b∨nb b:=fun e h3 t3 he=>by
  have T3:=t2.trans t3;rw[he];exact Wp.ret ⟨lo,nb,[],rfl,(K.tch T3 (fun _ h=>nomatch h)).mono (by omega),J2.tch t3 (fun _ h=>nomatch h),fun _ h=>h,fun b hb=>⟨.inl hb,(sep b hb).1,Nat.lt_of_lt_of_le (sep b hb).2 T3.1⟩,T3,fun _ h=>nomatch h⟩
 refine Wp.outK (z3e9 jb h2) (Wp.obind (z13 _) (y8 rfl (Wp.obind (z10 _ _) (Wp.obind (z7 _ _ _) (Wp.obind J2.br_ld (Wp.obind (z5 _ _) (Wp.lett ?_)))))))
 by_cases hbr:br=0
 case neg=>
  exact yc (zc7 hbr) (Wp.obind (z10 _ _) (Wp.obind (z7 _ _ _) (Wp.obind J2.br_ld (Wp.obind (z5 _ _) (same br h2 (Tch.refl _ _) (if_pos hbr))))))
 have hbr':¬br≠0:=fun h=>h hbr;refine y8 (z9b hbr) (Wp.obind (k2.ldAll rfl) (Wp.callN (z439 (n:=n) (d:=D+3) (by omega) hs) (Wp.obind (z5 _ _) (Wp.lett ?_))))
 by_cases hc:z30 x=0
 case neg=>
  have hm:z3fb L x=z30 x:=if_pos hc;exact yc (zc7 hc) (same _ h2 (Tch.refl _ _) (by rw[←hm];exact(if_neg hbr').trans (if_pos (by rw[hm];exact hc))))
 have hmr:z3fb L x=z299 L x:=if_neg (fun h=>h hc);obtain⟨h3,e3,t3⟩:=jref_w (n:=n) (d:=D+3) (x:=x) J2 (z172 hok x.k);have n23:=t3.1;have k3:=k2.tch t3 l2 (fun h=>nomatch h);have J3:=J2.tch t3 (fun _ h=>nomatch h);refine y8 (z9b hc) (Wp.obind (k2.ldAll rfl) (Wp.callN e3 (Wp.obind (z5 _ _) (Wp.lett ?_))))
 by_cases hr:z299 L x=0
 case neg=>
  exact yc (zc7 hr) (same _ h3 t3 (by rw[←hmr];exact(if_neg hbr').trans (if_pos (by rw[hmr];exact hr))))
 have hm':¬z3fb L x≠0:=fun h=>h (hmr.trans hr);have T3:=t2.trans t3;have x3:h3.ex=[]:=by rw[T3.2.1,hx]
 have hsl:=(zd7 hc).2
 have hul:u.length≤112:=by
  rw[←hu,z98,z14e];omega
 have hfr:=z468 (n:=n) (d:=D) (x:=x) (H:=h3) (by omega) x3 hc;rw[hu] at hfr;refine y8 (z9b hr) (Wp.obind (k3.ldAll rfl) (Wp.callN hfr (Wp.obind (z64 _ _) (Wp.obind (z12 _) (Wp.obind (z63 _ _ _) (Wp.obind (z5 _ _) (Wp.lett (y8 rfl (Wp.obind (z10 _ _) (Wp.obind (z7 _ _ _) (Wp.obind J3.db_ld ?_)))))))))));have K3:=K.part T3 (fun _ h=>nomatch h);have n3:=T3.1;obtain⟨h4,S4,e4,K4,t4,hS4⟩:=z1dd (n:=n) (d:=D+2) (u:=u) (z:=0) hn K3 (by omega);have n4:=t4.1;have J4:=J3.tch t4 fun b hb hh=>(sep b hh).1 (hS4 b hb).1
 have k4:=k3.tch t4 (Nat.lt_of_lt_of_le l2 t3.1) (fun h=>by
  rcases(hS4 _ h).2 with h|h<;>omega)
 have hjb:=J3.jb_nb;have sepb:=sep jb hjb;refine Wp.callN e4 (Wp.obind (z5 _ _) (Wp.obind (z10 _ _) (Wp.obind (z7 _ _ _) (J4.setbr fun h5 J5 t5 n5=>?_))));have K5:=K4.tch t5 (fun b hb=>.inl (by rw[List.mem_singleton.1 hb];exact fun h=>sepb.1 h.1));have k5:=k4.tch t5 (by omega) (fun h=>by have:=List.mem_singleton.1 h;omega);refine Wp.obind (z10 _ _) (Wp.obind (z7 _ _ _) (Wp.obind J5.br_ld (Wp.obind (z5 _ _) (Wp.lett (y9 fun k70 e70=>?_)))));have T5:Tch (jb::S4) H h5:=((T3.mono fun _ h=>nomatch h).trans (t4.mono fun b hb=>.inl (List.mem_cons_of_mem _ hb))).trans (t5.mono fun b hb=>.inl (by rw[List.mem_singleton.1 hb];exact List.mem_cons_self ..))
 have hS5:∀b∈jb::S4,lo b∨nb b:=fun b hb=>by
  rcases List.mem_cons.1 hb with rfl|hb
  ·exact .inr hjb
  ·exact .inl (hS4 b hb).1
 by_cases he:z17c s 0 (chA u)=0
 case neg=>
  have ha:addJ s L br x u=(z17c s 0 (chA u),L,z17c s 0 (chA u),z10f s 0 (chA u)):=(if_neg hbr').trans ((if_neg hm').trans (if_pos he));rw[ha];refine y8 (zc8 he) ?_;rw[e70];refine Wp.obind (z10 _ _) (Wp.obind (z7 _ _ _) (Wp.obind J5.br_ld (Wp.obind (z5 _ _) (Wp.lett (y9 fun k79 e79=>y8 (zc8 he) ?_)))));rw[e79];exact Wp.obind (z10 _ _) (Wp.obind (z7 _ _ _) (Wp.obind J5.br_ld (Wp.obind (z5 _ _) (Wp.ret ⟨_,nb,jb::S4,rfl,K5.mono (by omega),J5,fun b hb=>hb.1,fun b hb=>⟨.inl hb,fun h=>(sep b hb).1 h.1,by have:=(sep b hb).2;omega⟩,T5,hS5⟩))))
 have he':¬z17c s 0 (chA u)≠0:=fun h=>h he;obtain⟨h6,S6,e6,K6,t6,hS6⟩:=z35d (n:=n) (d:=D+2) (z:=0) hn K5 (by omega);have n6:=t6.1;have J6:=J5.tch t6 (fun b hb hh=>(sep b hh).1 (hS6 b hb).1);have k6:=k5.tch t6 (by omega) (fun h=>by rcases(hS6 _ h).2 with h|h<;>omega);refine yc (zf7 he) (Wp.obind (z10 _ _) (Wp.obind (z7 _ _ _) (Wp.obind J5.db_ld (Wp.callN e6 (Wp.obind (z5 _ _) (Wp.obind (z10 _ _) (Wp.obind (z7 _ _ _) (J6.setbr fun h7 J7 t7 n7=>?_))))))));have K7:=K6.tch t7 (fun b hb=>.inl (by rw[List.mem_singleton.1 hb];exact fun h=>sepb.1 h.1));have k7:=k6.tch t7 (by omega) (fun h=>by have:=List.mem_singleton.1 h;omega)
 have T7:Tch (jb::(S4++S6)) H h7:=((T5.mono fun b hb=>.inl (by
  rcases List.mem_cons.1 hb with rfl|hb
  ·exact List.mem_cons_self ..
  ·exact List.mem_cons_of_mem _ (List.mem_append_left _ hb))).trans (t6.mono fun b hb=>.inl (List.mem_cons_of_mem _ (List.mem_append_right _ hb)))).trans (t7.mono fun b hb=>.inl (by rw[List.mem_singleton.1 hb];exact List.mem_cons_self ..))
 have hS7:∀b∈jb::(S4++S6),lo b∨nb b:=fun b hb=>by
  rcases List.mem_cons.1 hb with rfl|hb
  ·exact .inr hjb
  ·rcases List.mem_append.1 hb with hb | hb
   ·exact .inl (hS4 b hb).1
   ·exact .inl (hS6 b hb).1
 rw[e70]
 by_cases hq:zcf (z10f s 0 (chA u)).p 0=0
 case neg=>
  have ha:addJ s L br x u=(zcf (z10f s 0 (chA u)).p 0,L,zcf (z10f s 0 (chA u)).p 0,z1e3 (z10f s 0 (chA u)) 0):=(if_neg hbr').trans ((if_neg hm').trans ((if_neg he').trans (if_pos hq)));rw[ha];refine Wp.obind (z10 _ _) (Wp.obind (z7 _ _ _) (Wp.obind J7.br_ld (Wp.obind (z5 _ _) (Wp.lett (y9 fun k79 e79=>y8 (zc8 hq) ?_)))));rw[e79];exact Wp.obind (z10 _ _) (Wp.obind (z7 _ _ _) (Wp.obind J7.br_ld (Wp.obind (z5 _ _) (Wp.ret ⟨_,nb,jb::(S4++S6),rfl,K7.mono (by omega),J7,fun b hb=>hb.1,fun b hb=>⟨.inl hb,fun h=>(sep b hb).1 h.1,by have:=(sep b hb).2;omega⟩,T7,hS7⟩))))
 have hq':¬zcf (z10f s 0 (chA u)).p 0≠0:=fun h=>h hq;have ha:addJ s L br x u=(0,L++[x],0,z1e3 (z10f s 0 (chA u)) 0):=(if_neg hbr').trans ((if_neg hm').trans ((if_neg he').trans (if_neg hq')));rw[ha]
 have J7:JAt nb h7 jb db L 0:=by
  have:=J7;rw[show zcf (z10f s 0 ⟨0,u,0⟩).p 0=0 from hq] at this;exact this
 obtain⟨h8,S8,e8,J8,t8,hS8⟩:=jput_w (n:=n) (d:=D+4) (x:=x) J7 (by rw[T7.2.1,hx]) (by omega);have n8:=t8.1;have K8:=K7.part t8 (fun b hb=>.inl (fun h=>(sep b (hS8 b hb)).1 h.1));have J8:=J8.cut;refine Wp.obind (z10 _ _) (Wp.obind (z7 _ _ _) (Wp.obind J7.br_ld (Wp.obind (z5 _ _) (Wp.lett (y9 fun k79 e79=>yc rfl (Wp.obind (k7.ldAll rfl) (Wp.callN e8 ?_)))))));rw[e79];refine Wp.obind (z10 _ _) (Wp.obind (z7 _ _ _) (Wp.obind J8.br_ld (Wp.obind (z5 _ _) (Wp.ret ⟨_,_,(jb::(S4++S6))++S8,rfl,K8.mono (by omega),J8,fun b hb=>hb.1.1,fun b hb=>?_,(T7.mono fun b hb=>.inl (List.mem_append_left _ hb)).trans (t8.mono fun b hb=>.inl (List.mem_append_right _ hb)),fun b hb=>?_⟩))))
 ·obtain ⟨hb, hlt⟩ := hb
  rcases hb with hb|hb
  ·exact⟨.inl hb,fun h=>(sep b hb).1 h.1.1,hlt⟩
  ·exact⟨.inr (by omega),fun h=>by rcases h.2 with h|h<;>omega,hlt⟩
 ·rcases List.mem_append.1 hb with hb | hb
  ·exact hS7 b hb
  ·exact .inr (hS8 b hb)
end
noncomputable def z5c(call:z11)(t0:AV)(r24:AV)(r25:AV)(t37:Int)(k36:AHeap→R)(self:AV→Int→AV→Int→Int→AHeap→R)(t5:AV)(t6:Int)(t7:AV)(t8:Int)(t38:Int)(h_40:AHeap):R:=
 lett (decide (t38<t37)) fun (t39:Bool)=>
 ifB t39
 (
  lett (fun (t5_47:AV) (t6_48:Int) (t7_49:AV) (t8_50:Int) (h_51:AHeap)=>
   lett (IntKind.i64.wrap (t38+1)) fun (t213:Int)=>
   self t5_47 t6_48 t7_49 t8_50 t213 h_51) fun k46=>
  obind (z17a 9 t0 t38) fun t40=>
  obind (z28 h_40 9 t40) fun t41=>
  lett (newH h_40 53 [.int .i64 0,.int .i64 0,.int .i64 0,.int .i64 0,.int .i64 0,.int .i64 0,.str 0 0,.str 0 0,.int .i64 0]) fun h_56=>
  obind (z22 h_56 9 t41 (z1a h_40)) fun h_58=>
  obind (ze h_58 (AV.ptr (AHeap.next h_40) 0)) fun v43=>
  obind (z16 .i64 v43) fun t43=>
  lett ((t43:Int) == 0) fun (t82:Bool)=>
  lett (fun (t5_68:AV) (t6_69:Int) (t7_70:AV) (t8_71:Int) (h_72:AHeap)=>
   callN (call 26 [r24,.int .i64 0] h_72) fun r110 h_74=>
   obind (z101 0 r110) fun v111=>
   obind (z2c v111) fun t111=>
   obind (z101 1 r110) fun v112=>
   obind (z33 v112) fun t112=>
   lett (fun (t165:Bool) (h_83:AHeap)=>
    ifB t165
    (
     some (.ret (.bool false),h_83))
    (
     outK (z6f Try.prog h_83 .eql 25 true (some t5_68) (some AV.nilp)) fun v167 h_87=>
     obind (z33 v167) fun t167=>
     ifB t167
     (
      k46 t5_68 t6_69 t7_70 t8_71 h_87)
     (
      callN (call 14 [t5_68] h_87) fun r170 h_91=>
      obind (z101 0 r170) fun v171=>
      obind (z101 1 r170) fun v172=>
      obind (z33 v172) fun t172=>
      obind (ze h_91 (AV.ptr (AHeap.next h_40) 2)) fun v177=>
      obind (z16 .i64 v177) fun t177=>
      callN (call 10 [t5_68,.int .i64 t177] h_91) fun r178 h_99=>
      obind (z101 0 r178) fun v179=>
      obind (z104 v179) fun t179=>
      obind (z101 1 r178) fun v180=>
      obind (z16 .i64 v180) fun t180=>
      lett (newH h_99 30 [.int .i64 0,.int .i64 0]) fun h_105=>
      obind (z22 h_105 2 t179 (z1a h_99)) fun h_107=>
      obind (z39 t7_70) fun t183=>
      obind (z21 1 t183) fun t184=>
      obind (ze h_107 t184) fun v185=>
      obind (ze h_107 (AV.ptr (AHeap.next h_40) 2)) fun v188=>
      obind (z16 .i64 v188) fun t188=>
      lett (newH h_107 30 [.int .i64 0,.int .i64 0]) fun h_115=>
      callN (call 29 [v185,.int .i64 t188] h_115) fun r189 h_117=>
      chk (z40f h_117 (AHeap.next h_107) 30 [.int .i64 0,.int .i64 0]&&(true&&(true&&true)))<|
      obind (z101 0 r189) fun v190=>
      obind (z104 v190) fun t190=>
      obind (z101 1 r189) fun v191=>
      obind (z16 .i64 v191) fun t191=>
      obind (z22 h_117 2 t190 (z1a h_107)) fun h_124=>
      lett (!t172) fun (t193:Bool)=>
      lett (fun (t202:Bool) (h_128:AHeap)=>
       lett (fun (t207:Bool) (h_131:AHeap)=>
        lett (fun (t212:Bool) (h_134:AHeap)=>
         ifB t212
         (
          some (.ret (.bool false),h_134))
         (
          k46 t5_68 t6_69 t7_70 t8_71 h_134)) fun j212=>
        ifB t207
        (
         j212 true h_131)
        (
         lett ((t180:Int) != t191) fun (t211:Bool)=>
         j212 t211 h_131)) fun j207=>
       ifB t202
       (
        j207 true h_128)
       (
        obind (z28 h_128 2 (z1a h_99)) fun t204=>
        obind (z28 h_128 2 (z1a h_107)) fun t205=>
        obind (z102 Try.prog 30 (.agg t204) (.agg t205)) fun t206=>
        lett (!t206) fun (t206_142:Bool)=>
        j207 t206_142 h_128)) fun j202=>
      ifB t193
      (
       j202 true h_124)
      (
       obind (z39 t7_70) fun t197=>
       obind (z21 1 t197) fun t198=>
       obind (ze h_124 t198) fun v199=>
       callN (call 15 [v171,v199] h_124) fun r200 h_147=>
       obind (z33 r200) fun t200=>
       lett (!t200) fun (t201:Bool)=>
       j202 t201 h_147)))) fun k82=>
   lett ((t6_69:Int) != t8_71) fun (t115:Bool)=>
   ifB t115
   (
    k82 true h_74)
   (
    outK (z6f Try.prog h_74 .eql 25 true (some t5_68) (some AV.nilp)) fun v118 h_152=>
    obind (z33 v118) fun t118=>
    outK (z6f Try.prog h_152 .eql 49 true (some t7_70) (some AV.nilp)) fun v120 h_155=>
    obind (z33 v120) fun t120=>
    lett (!((t118:Bool) == t120)) fun (t121:Bool)=>
    ifB t121
    (
     k82 true h_155)
    (
     obind (z39 r25) fun t127=>
     obind (z21 97 t127) fun t128=>
     obind (ze h_155 t128) fun v129=>
     obind (z16 .i64 v129) fun t129=>
     callN (call 27 [r24] h_155) fun r125 h_163=>
     obind (z16 .i64 r125) fun t125=>
     chk (z74 Try.prog h_163 3 t128 (.int .i64 t129)&&true)<|
     lett ((t125:Int) != t129) fun (t130:Bool)=>
     ifB t130
     (
      k82 true h_163)
     (
      obind (z39 r25) fun t135=>
      obind (z21 0 t135) fun t136=>
      obind (z19c 32 3 t136 0) fun t137=>
      obind (z21 0 t137) fun t138=>
      obind (z21 1 t138) fun t139=>
      obind (ze h_163 t139) fun v140=>
      obind (z2c v140) fun t140=>
      lett (!eqS t111 t140) fun (t141:Bool)=>
      ifB t141
      (
       k82 true h_163)
      (
       obind (z39 r25) fun t146=>
       obind (z21 0 t146) fun t147=>
       obind (z19c 32 3 t147 0) fun t148=>
       obind (z21 0 t148) fun t149=>
       obind (z21 0 t149) fun t150=>
       obind (ze h_163 t150) fun v151=>
       obind (z33 v151) fun t151=>
       lett (!((t112:Bool) == t151)) fun (t152:Bool)=>
       ifB t152
       (
        k82 true h_163)
       (
        obind (z39 r25) fun t158=>
        obind (z21 0 t158) fun t159=>
        obind (z19c 32 3 t159 0) fun t160=>
        obind (z21 2 t160) fun t161=>
        obind (ze h_163 t161) fun v162=>
        obind (z18e v162) fun t163=>
        callN (call 28 [r24,.int .i64 0] h_163) fun r156 h_190=>
        obind (z16 .i64 r156) fun t156=>
        chk (z74 Try.prog h_190 56 t161 v162&&(true&&(true&&(true&&true))))<|
        lett ((t156:Int) != t163) fun (t164:Bool)=>
        k82 t164 h_190)))))) fun k67=>
  ifB t82
  (
   lett (fun (t95:Bool) (h_197:AHeap)=>
    ifB t95
    (
     some (.ret (.bool false),h_197))
    (
     k67 t5 t6 t7 t8 h_197)) fun k196=>
   outK (z6f Try.prog h_58 .neq 25 true (some t5) (some AV.nilp)) fun v84 h_199=>
   obind (z33 v84) fun t84=>
   ifB t84
   (
    obind (z28 h_199 5 (AV.ptr (AHeap.next h_40) 2)) fun t88=>
    obind (z28 h_199 5 (AV.ptr (AHeap.next h_40) 2)) fun t92=>
    callN (call 11 [t5,.agg t88] h_199) fun r89 h_204=>
    obind (z16 .i64 r89) fun t89=>
    chk (z74 Try.prog h_204 35 (AV.ptr (AHeap.next h_40) 2) (.agg t92)&&(true&&true))<|
    callN (call 21 [t7,.agg t92] h_204) fun r93 h_208=>
    obind (z16 .i64 r93) fun t93=>
    lett ((t89:Int) != t93) fun (t94:Bool)=>
    k196 t94 h_208)
   (
    k196 false h_199))
  (
   lett ((t43:Int) == 1) fun (t97:Bool)=>
   lett (fun (t5_215:AV) (t6_216:Int) (t7_217:AV) (t8_218:Int) (h_219:AHeap)=>
    k67 t5_215 t6_216 t7_217 t8_218 h_219) fun k214=>
   ifB t97
   (
    obind (ze h_58 (AV.ptr (AHeap.next h_40) 1)) fun v100=>
    obind (z16 .i64 v100) fun t100=>
    lett (if (-1)>t100 then (-1) else t100) fun (t101:Int)=>
    obind (z39 r25) fun t102=>
    obind (z21 96 t102) fun t103=>
    obind (z22 h_58 1 [.int .i64 t101] t103) fun h_226=>
    obind (ze h_226 (AV.ptr (AHeap.next h_40) 1)) fun v106=>
    obind (z16 .i64 v106) fun t106=>
    callN (call 22 [r24,.int .i64 t106] h_226) fun r107 h_230=>
    obind (z16 .i64 r107) fun _=>
    k214 t5 t6 t7 t8 h_230)
   (
    obind (ze h_58 (AV.ptr (AHeap.next h_40) 8)) fun v45=>
    obind (z16 .i64 v45) fun t45=>
    outK (z183 Try.prog h_58 63 1 [(0,.int .i64 t45)]) fun v46 h_236=>
    obind (ze h_236 (AV.ptr (AHeap.next h_40) 0)) fun v48=>
    obind (z16 .i64 v48) fun t48=>
    lett ((t48:Int) == 3) fun (t49:Bool)=>
    lett (fun (t11:AV) (h_244:AHeap)=>
     obind (ze h_244 (AV.ptr (AHeap.next h_40) 1)) fun v64=>
     obind (z16 .i64 v64) fun t64=>
     callN (call 25 [r25,t11,.int .i64 t64] h_244) fun _ h_248=>
     obind (ze h_248 (AV.ptr (AHeap.next h_40) 1)) fun v69=>
     obind (z16 .i64 v69) fun t69=>
     callN (call 13 [r24,t11,.int .i64 t69] h_248) fun r70 h_253=>
     obind (z16 .i64 r70) fun _=>
     callN (call 9 [r24] h_253) fun r73 h_257=>
     obind (z101 0 r73) fun v74=>
     obind (z101 1 r73) fun v75=>
     obind (z16 .i64 v75) fun t75=>
     callN (call 20 [r25] h_257) fun r78 h_262=>
     obind (z101 0 r78) fun v79=>
     obind (z101 1 r78) fun v80=>
     obind (z16 .i64 v80) fun t80=>
     k214 v74 t75 v79 t80 h_262) fun k243=>
    ifB t49
    (
     obind (ze h_236 (AV.ptr (AHeap.next h_40) 7)) fun v52=>
     obind (z2c v52) fun t52=>
     obind (ze h_236 (AV.ptr (AHeap.next h_40) 7)) fun v56=>
     obind (z2c v56) fun t56=>
     callN (call 23 [r24,.int .i64 0,zc t52] h_236) fun r53 h_273=>
     obind (z16 .i64 r53) fun t53=>
     chk (z74 Try.prog h_273 9 (AV.ptr (AHeap.next h_40) 7) (zc t56)&&(true&&true))<|
     callN (call 24 [r25,.int .i64 0,.agg ([.int .i64 1,zc t56,.int .i64 0]:List AV)] h_273) fun r58 h_277=>
     obind (z16 .i64 r58) fun t58=>
     lett ((t53:Int) != t58) fun (t59:Bool)=>
     ifB t59
     (
      some (.ret (.bool false),h_277))
     (
      outK (z183 Try.prog h_277 63 1 [(0,.int .i64 99)]) fun v60 h_282=>
      k243 v60 h_282))
    (
     k243 v46 h_236))))
 (
  k36 h_40)
noncomputable def z67(call:z11)(t0:AV)(r24:AV)(r25:AV)(t37:Int)(k36:AHeap→R):Nat→AV→Int→AV→Int→Int→AHeap→R:=z143 (fun _ _ _ _ _ _=>none) (z5c call t0 r24 r25 t37 k36)
theorem zb6(call:z11)(t0:AV)(r24:AV)(r25:AV)(t37:Int)(k36:AHeap→R)(m:Nat):z67 call t0 r24 r25 t37 k36 (m+1)=z5c call t0 r24 r25 t37 k36 (z67 call t0 r24 r25 t37 k36 m):=rfl
noncomputable def zca(call:z11)(n:Nat)(t0:AV)(h:AHeap):R:=callN (call 7 [] h) fun r20 h_4=>obind (z33 r20) fun t20=>lett (!t20) fun (t21:Bool)=>ifB t21 (some (.ret (.bool false),h_4)) (callN (call 18 [t0] h_4) fun r23 h_11=>obind (z33 r23) fun t23=>ifB t23 (some (.ret (.bool true),h_11)) (callN (call 8 [] h_11) fun r24 h_16=>callN (call 19 [] h_16) fun r25 h_18=>callN (call 9 [r24] h_18) fun r28 h_21=>obind (z101 0 r28) fun v29=>obind (z101 1 r28) fun v30=>obind (z16 .i64 v30) fun t30=>callN (call 20 [r25] h_21) fun r33 h_27=>obind (z101 0 r33) fun v34=>obind (z101 1 r33) fun v35=>obind (z16 .i64 v35) fun t35=>obind (z18e t0) fun t37=>lett (fun (h_37:AHeap)=>some (.ret (.bool true),h_37)) fun k36=>z67 call t0 r24 r25 t37 k36 n v29 t30 v34 t35 0 h_27))
set_option maxHeartbeats 4000000 in
set_option maxRecDepth 20000 in
theorem z1d3{call:z11}(hc:SaysAll Try.prog call){n:Nat}{t0:AV}{h:AHeap}{rR:ARes}{hR:AHeap}(hF:zca call n t0 h=some (rR,hR)):Says Try.prog 5 [t0] h rR hR:=by
 unfold zca at hF;refine sO Try.func5 fun w0 m0=>wW [(0,t0)] (oG fun n1=>W.r (oA 2 (.bool false) (oV [(0,t0)] (n1 (oH fun n2 q2=>oG fun n3=>W.r (oCb hc 20 hF fun t20 h_4 hF=>oB 21 hF fun t21 hF=>oV [(0,t0),(21,.bool t21)] (n3 ?_)))))))
 cases t21 with
 |true=>
  exact oT hF fun hF=>oG fun n8=>W.r (oA 2 (.bool false) (oV [(2,.bool false)] (n8 (oY (q2 (lZ hF [.tmp 2] [.bool false] (rT zd)))))))
 |false=>
  refine oU hF fun hF=>oZ (n2 (oH fun n9 q9=>oG fun n10=>W.r (oA 22 t0 (oCb hc 23 hF fun t23 h_11 hF=>oV [(0,t0),(23,.bool t23)] (n10 ?_)))))
  cases t23 with
  |true=>
   exact oT hF fun hF=>oG fun n14=>W.r (oA 2 (.bool true) (oV [(2,.bool true)] (n14 (oY (q9 (lZ hF [.tmp 2] [.bool true] (rT zd)))))))
  |false=>
   refine oU hF fun hF=>oZ (n9 (oG fun n15=>W.r (oC hc (some 24) hF fun r24 h_16 hF=>oC hc (some 25) hF fun r25 h_18 hF=>oA 3 r24 (oA 4 r25 (oV [(0,t0),(3,r24),(4,r25)] (n15 (oG fun n20=>W.r (oA 27 r24 (oC hc (some 28) hF fun r28 h_21 hF=>oA 26 r28 (oE 29 hF fun v29 hF=>oEi 30 hF fun t30 hF=>oA 5 v29 (oA 6 (.int .i64 t30) (oV [(0,t0),(3,r24),(4,r25),(5,v29),(6,.int .i64 t30)] (n20 (oG fun n26=>W.r (oA 32 r25 (oC hc (some 33) hF fun r33 h_27 hF=>oA 31 r33 (oE 34 hF fun v34 hF=>oEi 35 hF fun t35 hF=>oA 7 v34 (oA 8 (.int .i64 t35) (oV [(0,t0),(3,r24),(4,r25),(5,v29),(6,.int .i64 t30),(7,v34),(8,.int .i64 t35)] (n26 (W.s (fun K32 n32 e32 q32 p32=>oG fun n33=>W.r (oA 36 t0 (oM 37 45 53 hF fun t37 hF=>oA 38 (.int .i64 0) (oV [(3,r24),(4,r25),(5,v29),(6,.int .i64 t30),(7,v34),(8,.int .i64 t35),(36,t0),(37,.int .i64 t37),(38,.int .i64 0)] (n33 ?_))))))))))))))))))))))))));obtain⟨k36,e36,hF⟩:=z9 hF
   have J36:∀(h_37:AHeap),k36 h_37=some (rR,hR)→Go w0 m0 (Func.ntmps Try.f5) (K32 .normal) [] [] h_37:=by
    intro h_37 hF;rw[e36] at hF;exact n32 (oG fun n38=>W.r (oA 2 (.bool true) (oV [(2,.bool true)] (n38 (oY (lZ hF [.tmp 2] [.bool true] (rT zd)))))))
   refine W.blockK (by kernel_rfl) (fun K35 n35 s35 o35 q35 p35=>W.loopK (by kernel_rfl) (fun I39 K39 b39 n39 e39 q39 p39=>?_))
   have L39:∀(m:Nat) (t5:AV) (t6:Int) (t7:AV) (t8:Int) (t38:Int) (h_40:AHeap),z67 call t0 r24 r25 t37 k36 m t5 t6 t7 t8 t38 h_40=some (rR,hR)→Go w0 m0 (Func.ntmps Try.f5) I39 [(3,r24),(4,r25),(5,t5),(6,.int .i64 t6),(7,t7),(8,.int .i64 t8),(36,t0),(37,.int .i64 t37),(38,.int .i64 t38)] [] h_40:=by
    intro m
    induction m with
    |zero=>intro t5 t6 t7 t8 t38 h_40 hF;cases hF
    |succ m ih39=>
     intro t5 t6 t7 t8 t38 h_40 hF;rw[zb6] at hF;unfold z5c at hF;refine b39 (oG fun n41=>W.r (oB 39 hF fun t39 hF=>oV [(3,r24),(4,r25),(5,t5),(6,.int .i64 t6),(7,t7),(8,.int .i64 t8),(36,t0),(37,.int .i64 t37),(38,.int .i64 t38),(39,.bool t39)] (n41 (W.s (fun K43 n43 e43 q43 p43=>?_)))))
     cases t39 with
     |true=>
      refine oT hF fun hF=>oZ (n43 (W.s (fun K44 n44 e44 q44 p44=>?_)));obtain⟨k46,e46,hF⟩:=z9 hF
      have J46:∀(t5_47:AV) (t6_48:Int) (t7_49:AV) (t8_50:Int) (h_51:AHeap),k46 t5_47 t6_48 t7_49 t8_50 h_51=some (rR,hR)→Go w0 m0 (Func.ntmps Try.f5) (K44 .normal) [(3,r24),(4,r25),(5,t5_47),(6,.int .i64 t6_48),(7,t7_49),(8,.int .i64 t8_50),(36,t0),(37,.int .i64 t37),(38,.int .i64 t38)] [] h_51:=by
       intro t5_47 t6_48 t7_49 t8_50 h_51 hF;rw[e46] at hF;exact n44 (W.r (oI 213 .i64 hF fun t213 hF=>oA 38 (.int .i64 t213) (oV [(3,r24),(4,r25),(5,t5_47),(6,.int .i64 t6_48),(7,t7_49),(8,.int .i64 t8_50),(36,t0),(37,.int .i64 t37),(38,.int .i64 t213)] (n39 (gW _ (ih39 _ _ _ _ _ _ hF))))))
      refine W.blockK (by kernel_rfl) (fun K45 n45 s45 o45 q45 p45=>oG fun n53=>W.r (oP 40 45 53 .i64 hF fun t40 hF=>oR 41 53 hF fun t41 hF=>oN 10 hF fun h_56 hF=>oW 53 (.agg t41) hF fun h_58 hF=>oV [(3,r24),(4,r25),(5,t5),(6,.int .i64 t6),(7,t7),(8,.int .i64 t8),(10,(z1a h_40)),(36,t0),(37,.int .i64 t37),(38,.int .i64 t38)] (n53 (oH fun n60 q60=>oG fun n61=>W.r (oA 42 (AV.ptr (AHeap.next h_40) 0) (oLi 43 3 hF fun t43 hF=>oV [(3,r24),(4,r25),(5,t5),(6,.int .i64 t6),(7,t7),(8,.int .i64 t8),(10,(z1a h_40)),(36,t0),(37,.int .i64 t37),(38,.int .i64 t38),(43,.int .i64 t43)] (n61 (W.blockK (by kernel_rfl) (fun K64 n64 s64 o64 q64 p64=>oG fun n65=>W.r (oB 82 hF fun t82 hF=>oA 81 (.bool t82) (oV [(3,r24),(4,r25),(5,t5),(6,.int .i64 t6),(7,t7),(8,.int .i64 t8),(10,(z1a h_40)),(36,t0),(37,.int .i64 t37),(38,.int .i64 t38),(43,.int .i64 t43),(81,.bool t82)] (n65 ?_))))))))))));obtain⟨k67,e67,hF⟩:=z9 hF
      have J67:∀(t5_68:AV) (t6_69:Int) (t7_70:AV) (t8_71:Int) (h_72:AHeap),k67 t5_68 t6_69 t7_70 t8_71 h_72=some (rR,hR)→Go w0 m0 (Func.ntmps Try.f5) (K64 .normal) [(3,r24),(4,r25),(5,t5_68),(6,.int .i64 t6_69),(7,t7_70),(8,.int .i64 t8_71),(10,(z1a h_40)),(36,t0),(37,.int .i64 t37),(38,.int .i64 t38)] [] h_72:=by
       intro t5_68 t6_69 t7_70 t8_71 h_72 hF;rw[e67] at hF;refine n64 (n60 (oG fun n73=>W.r (oA 109 r24 (oC hc (some 110) hF fun r110 h_74 hF=>oA 108 r110 (oEs 111 hF fun t111 hF=>oEb 112 hF fun t112 hF=>oA 12 (zc t111) (oA 13 (.bool t112) (oV [(3,r24),(4,r25),(5,t5_68),(6,.int .i64 t6_69),(7,t7_70),(8,.int .i64 t8_71),(10,(z1a h_40)),(12,zc t111),(13,.bool t112),(36,t0),(37,.int .i64 t37),(38,.int .i64 t38)] (n73 (oH fun n80 q80=>W.s (fun K81 n81 e81 q81 p81=>?_))))))))));obtain⟨k82,e82,hF⟩:=z9 hF
       have J82:∀(t165:Bool) (h_83:AHeap),k82 t165 h_83=some (rR,hR)→Go w0 m0 (Func.ntmps Try.f5) (K81 .normal) [(3,r24),(4,r25),(5,t5_68),(6,.int .i64 t6_69),(7,t7_70),(8,.int .i64 t8_71),(10,(z1a h_40)),(36,t0),(37,.int .i64 t37),(38,.int .i64 t38),(165,.bool t165)] [] h_83:=by
        intro t165 h_83 hF;rw[e82] at hF;refine n81 ?_
        cases t165 with
        |true=>
         exact oT hF fun hF=>oG fun n84=>W.r (oA 2 (.bool false) (oV [(2,.bool false)] (n84 (oY (q80 (q45 (q44 (q39 (q35 (q32 (lZ hF [.tmp 2] [.bool false] (rT zd))))))))))))
        |false=>
         refine oU hF fun hF=>oZ (n80 (W.s (fun K85 n85 e85 q85 p85=>oG fun n86=>W.r (oA 166 t5_68 ?_))))
         replace hF:=z1e hF;obtain⟨v167,h_87,e88,hF⟩:=hF
         replace hF:=z3 hF;obtain⟨t167,c89,hF⟩:=hF
         have c89:=z20 c89;subst c89;refine WL.b (some 167) (.bool t167) h_87 e88 (oV [(3,r24),(4,r25),(5,t5_68),(6,.int .i64 t6_69),(7,t7_70),(8,.int .i64 t8_71),(10,(z1a h_40)),(36,t0),(37,.int .i64 t37),(38,.int .i64 t38),(167,.bool t167)] (n86 ?_))
         cases t167 with
         |true=>
          exact oT hF fun hF=>W.exit (by kernel_rfl) (e85 (s45 (by kernel_rfl) (gW _ (J46 _ _ _ _ _ hF))))
         |false=>
          refine oU hF fun hF=>oZ (n85 (oG fun n90=>W.r (oA 169 t5_68 (oC hc (some 170) hF fun r170 h_91 hF=>oA 168 r170 (oE 171 hF fun v171 hF=>oEb 172 hF fun t172 hF=>oA 14 v171 (oA 15 (.bool t172) (oV [(3,r24),(4,r25),(5,t5_68),(6,.int .i64 t6_69),(7,t7_70),(8,.int .i64 t8_71),(10,(z1a h_40)),(14,v171),(15,.bool t172),(36,t0),(37,.int .i64 t37),(38,.int .i64 t38)] (n90 (oG fun n96=>W.r (oA 174 t5_68 (oA 175 (AV.ptr (AHeap.next h_40) 2) (oA 176 (AV.ptr (AHeap.next h_40) 2) (oLi 177 3 hF fun t177 hF=>oC hc (some 178) hF fun r178 h_99 hF=>oA 173 r178 (oEa 179 hF fun t179 hF=>oEi 180 hF fun t180 hF=>oN 16 hF fun h_105 hF=>oW 30 (.agg t179) hF fun h_107 hF=>oA 17 (.int .i64 t180) (oV [(3,r24),(4,r25),(5,t5_68),(6,.int .i64 t6_69),(7,t7_70),(8,.int .i64 t8_71),(10,(z1a h_40)),(14,v171),(15,.bool t172),(16,(z1a h_99)),(17,.int .i64 t180),(36,t0),(37,.int .i64 t37),(38,.int .i64 t38)] (n96 (oG fun n109=>y14 (by kernel_rfl) (hc.ok w0) (plan:=[0,1,2,3,4,5,6,11,7,8,9,10,12,13]) (by kernel_rfl) (by kernel_rfl) (by kernel_rfl) (WD.a 0 (some 182) t7_70 h_107 ?_))))))))))))))))));obtain⟨t183,e110,hF⟩:=z3 hF;refine WD.b 0 (some 183) t183 h_107 (z24 (h:=h_107) e110) ?_;obtain⟨t184,e111,hF⟩:=z3 hF;refine WD.b 0 (some 184) t184 h_107 (z15 (P:=Try.prog) (h:=h_107) (s:=75) (f:=1) (by kernel_rfl) e111) ?_;obtain⟨v185,e112,hF⟩:=z3 hF;refine WD.b 1 (some 185) v185 h_107 (z14 (P:=Try.prog) (h:=h_107) (t:=39) (by kernel_rfl) e112) (WD.a 0 (some 186) (AV.ptr (AHeap.next h_40) 2) h_107 (WD.a 0 (some 187) (AV.ptr (AHeap.next h_40) 2) h_107 ?_))
          replace hF:=z3 hF;obtain⟨v188,e113,hF⟩:=hF
          replace hF:=z3 hF;obtain⟨t188,c114,hF⟩:=hF
          have c114:=z19 c114;subst c114;refine WD.b 1 (some 188) (.int .i64 t188) h_107 (z14 (P:=Try.prog) (h:=h_107) (t:=3) (by kernel_rfl) e113) ?_;obtain⟨h_115,e116,hF⟩:=z9 hF;refine WD.val (d:=(some 18)) (v:=(z1a h_107)) (h':=h_115) (by kernel_rfl) (by kernel_rfl) (z213 e116 (by kernel_rfl)) (k:=1) (by kernel_rfl) (fun e=>absurd e (by decide)) (by decide) ?_;obtain⟨r189,h_117,e118,hF⟩:=z1b hF;obtain⟨k119,hF⟩:=z73 hF;refine WD.call (d:=(some 189)) (by kernel_rfl) (by kernel_rfl) (by kernel_rfl) e118 (k:=2) (by kernel_rfl) (fun _=>(Eq.trans (by kernel_rfl) k119)) (by decide) (WD.a 0 (some 181) r189 h_117 ?_)
          replace hF:=z3 hF;obtain⟨v190,e120,hF⟩:=hF
          replace hF:=z3 hF;obtain⟨t190,c121,hF⟩:=hF
          have c121:=z7c c121;subst c121;refine WD.b 0 (some 190) (.agg t190) h_117 (z6a (h:=h_117) e120) ?_
          replace hF:=z3 hF;obtain⟨v191,e122,hF⟩:=hF
          replace hF:=z3 hF;obtain⟨t191,c123,hF⟩:=hF
          have c123:=z19 c123;subst c123;refine WD.b 0 (some 191) (.int .i64 t191) h_117 (z6a (h:=h_117) e122) ?_;obtain⟨h_124,e125,hF⟩:=z3 hF;refine WD.eff (h':=h_124) (by kernel_rfl) (by kernel_rfl) (Eq.trans (by kernel_rfl) (z3b (P:=Try.prog) (h:=h_117) (t:=30) (v:=(.agg t190)) (by kernel_rfl) (by kernel_rfl) e125)) (k:=2) (by kernel_rfl) (fun _=>(by kernel_rfl)) (by decide) (WD.a 0 (some 19) (.int .i64 t191) h_124 (WD.nil (gW [(3,r24),(4,r25),(5,t5_68),(6,.int .i64 t6_69),(7,t7_70),(8,.int .i64 t8_71),(14,v171),(15,.bool t172),(16,(z1a h_99)),(17,.int .i64 t180),(18,(z1a h_107)),(19,.int .i64 t191),(36,t0),(37,.int .i64 t37),(38,.int .i64 t38)] (n109 (W.s (fun K126 n126 e126 q126 p126=>W.r (oA 192 (.bool t172) (oB 193 hF fun t193 hF=>oA 194 (.bool t193) ?_))))))));obtain⟨j202,e129,hF⟩:=z9 hF
          have J130:∀(t202:Bool) (h_128:AHeap),j202 t202 h_128=some (rR,hR)→WL Try.prog w0 m0 (Func.ntmps Try.f5) (Code.ops (y7 (y6 (y6 (y6 (y6 (y6 (y6 (y6 (y6 (y7 (y7 (y6 (y6 (y7 (y7 (y6 (y7 (y6 (y6 (y6 (y6 (y6 (y6 (z32 Try.f5))))))))))))))))))))))))) 11 K126 [(3,r24),(4,r25),(5,t5_68),(6,.int .i64 t6_69),(7,t7_70),(8,.int .i64 t8_71),(16,(z1a h_99)),(17,.int .i64 t180),(18,(z1a h_107)),(19,.int .i64 t191),(36,t0),(37,.int .i64 t37),(38,.int .i64 t38),(202,.bool t202)] [] h_128:=by
           intro t202 h_128 hF;rw[e129] at hF;refine oA 203 (.bool t202) ?_;obtain⟨j207,e132,hF⟩:=z9 hF
           have J133:∀(t207:Bool) (h_131:AHeap),j207 t207 h_131=some (rR,hR)→WL Try.prog w0 m0 (Func.ntmps Try.f5) (Code.ops (y7 (y6 (y6 (y6 (y6 (y6 (y6 (y6 (y6 (y7 (y7 (y6 (y6 (y7 (y7 (y6 (y7 (y6 (y6 (y6 (y6 (y6 (y6 (z32 Try.f5))))))))))))))))))))))))) 16 K126 [(3,r24),(4,r25),(5,t5_68),(6,.int .i64 t6_69),(7,t7_70),(8,.int .i64 t8_71),(17,.int .i64 t180),(19,.int .i64 t191),(36,t0),(37,.int .i64 t37),(38,.int .i64 t38),(207,.bool t207)] [] h_131:=by
            intro t207 h_131 hF;rw[e132] at hF;refine oA 208 (.bool t207) ?_;obtain⟨j212,e135,hF⟩:=z9 hF
            have J136:∀(t212:Bool) (h_134:AHeap),j212 t212 h_134=some (rR,hR)→WL Try.prog w0 m0 (Func.ntmps Try.f5) (Code.ops (y7 (y6 (y6 (y6 (y6 (y6 (y6 (y6 (y6 (y7 (y7 (y6 (y6 (y7 (y7 (y6 (y7 (y6 (y6 (y6 (y6 (y6 (y6 (z32 Try.f5))))))))))))))))))))))))) 21 K126 [(3,r24),(4,r25),(5,t5_68),(6,.int .i64 t6_69),(7,t7_70),(8,.int .i64 t8_71),(36,t0),(37,.int .i64 t37),(38,.int .i64 t38),(212,.bool t212)] [] h_134:=by
             intro t212 h_134 hF;rw[e135] at hF;refine oV [(3,r24),(4,r25),(5,t5_68),(6,.int .i64 t6_69),(7,t7_70),(8,.int .i64 t8_71),(36,t0),(37,.int .i64 t37),(38,.int .i64 t38),(212,.bool t212)] (n126 ?_)
             cases t212 with
             |true=>
              exact oT hF fun hF=>oG fun n137=>W.r (oA 2 (.bool false) (oV [(2,.bool false)] (n137 (oY (q45 (q44 (q39 (q35 (q32 (lZ hF [.tmp 2] [.bool false] (rT zd)))))))))))
             |false=>
              exact oU hF fun hF=>oZ (n45 (gW _ (J46 _ _ _ _ _ hF)))
            cases t207 with
            |true=>
             replace hF:=z55 hF
             exact WL.o (some 209) (WL.o (some 210) (WL.o (some 211) (oA 212 (.bool true) (lW _ (J136 _ _ hF)))))
            |false=>
             replace hF:=z56 hF
             exact oA 209 (.int .i64 t180) (oA 210 (.int .i64 t191) (oB 211 hF fun t211 hF=>oA 212 (.bool t211) (lW _ (J136 _ _ hF))))
           cases t202 with
           |true=>
            replace hF:=z55 hF
            exact WL.o (some 204) (WL.o (some 205) (WL.o (some 206) (oA 207 (.bool true) (lW _ (J133 _ _ hF)))))
           |false=>
            replace hF:=z56 hF
            refine oR 204 30 hF fun t204 hF=>oR 205 30 hF fun t205 hF=>?_;obtain⟨t206,e141,hF⟩:=z3 hF;obtain⟨t206_142,e143,hF⟩:=z9 hF;exact WL.val (d:=(some 206)) (v:=.bool t206_142) (h':=h_128) (by kernel_rfl) (by kernel_rfl) (z2a AV.bool e143 (Eq.trans (by kernel_rfl) (z3cc (P:=Try.prog) (h:=h_128) (t:=30) (lit:=false) (by kernel_rfl) e141))) (oA 207 (.bool t206_142) (lW _ (J133 _ _ hF)))
          cases t193 with
          |true=>
           replace hF:=z55 hF
           exact WL.o (some 195) (WL.o (some 196) (WL.o (some 197) (WL.o (some 198) (WL.o (some 199) (WL.o (some 200) (WL.o (some 201) (oA 202 (.bool true) (lW _ (J130 _ _ hF)))))))))
          |false=>
           replace hF:=z56 hF
           exact oA 195 v171 (oA 196 t7_70 (oC0 197 hF fun t197 hF=>oF 198 75 1 hF fun t198 hF=>oL 199 39 hF fun v199 hF=>oCb hc 200 hF fun t200 h_147 hF=>oB 201 hF fun t201 hF=>oA 202 (.bool t201) (lW _ (J130 _ _ hF))))
       refine y14 (by kernel_rfl) (hc.ok w0) (plan:=[0,1,2,3,4,5,6,7,8,9,10,11,13,14,15,16,12,17,18,19,20,21,22,23,24,25,26,27,28,29,30,31,32,33,34,35,36,37,38,39,40,41,42,44,45,46,47,48,49,50,43,51,52]) (by kernel_rfl) (by kernel_rfl) (by kernel_rfl) (WD.a 0 (some 113) (.int .i64 t6_69) h_74 (WD.a 0 (some 114) (.int .i64 t8_71) h_74 ?_));obtain⟨t115,e151,hF⟩:=z9 hF;refine WD.val (d:=(some 115)) (v:=.bool t115) (h':=h_74) (by kernel_rfl) (by kernel_rfl) (z2a AV.bool e151 (by kernel_rfl)) (k:=0) (by kernel_rfl) (fun e=>absurd e (by decide)) (by decide) (WD.a 0 (some 116) (.bool t115) h_74 ?_)
       cases t115 with
       |true=>
        replace hF:=z55 hF
        exact oD 0 (some 117) (oD 0 (some 118) (oD 0 (some 119) (oD 0 (some 120) (oD 0 (some 121) (WD.a 0 (some 122) (.bool true) h_74 (WD.a 0 (some 123) (.bool true) h_74 (oD 0 (some 124) (oD 0 (some 126) (oD 0 (some 127) (oD 0 (some 128) (oD 1 (some 129) (WD.not (d:=(some 125)) (by kernel_rfl) (by kernel_rfl) (k:=2) (by kernel_rfl) (fun _=>(by kernel_rfl)) (by decide) (oD 0 (some 130) (WD.a 0 (some 131) (.bool true) h_74 (WD.a 0 (some 132) (.bool true) h_74 (oD 0 (some 133) (oD 0 (some 134) (oD 0 (some 135) (oD 0 (some 136) (oD 0 (some 137) (oD 0 (some 138) (oD 0 (some 139) (oD 1 (some 140) (oD 0 (some 141) (WD.a 0 (some 142) (.bool true) h_74 (WD.a 0 (some 143) (.bool true) h_74 (oD 0 (some 144) (oD 0 (some 145) (oD 0 (some 146) (oD 0 (some 147) (oD 0 (some 148) (oD 0 (some 149) (oD 0 (some 150) (oD 1 (some 151) (oD 0 (some 152) (WD.a 0 (some 153) (.bool true) h_74 (WD.a 0 (some 154) (.bool true) h_74 (oD 0 (some 155) (oD 0 (some 157) (oD 0 (some 158) (oD 0 (some 159) (oD 0 (some 160) (oD 0 (some 161) (oD 1 (some 162) (oD 0 (some 163) (WD.not (d:=(some 156)) (by kernel_rfl) (by kernel_rfl) (k:=2) (by kernel_rfl) (fun _=>(by kernel_rfl)) (by decide) (oD 0 (some 164) (WD.a 0 (some 165) (.bool true) h_74 (WD.nil (gW _ (J82 _ _ hF)))))))))))))))))))))))))))))))))))))))))))))))))))
       |false=>
        replace hF:=z56 hF
        refine WD.a 0 (some 117) t5_68 h_74 ?_
        replace hF:=z1e hF;obtain⟨v118,h_152,e153,hF⟩:=hF
        replace hF:=z3 hF;obtain⟨t118,c154,hF⟩:=hF
        have c154:=z20 c154;subst c154;refine WD.b 0 (some 118) (.bool t118) h_152 e153 (WD.a 0 (some 119) t7_70 h_152 ?_)
        replace hF:=z1e hF;obtain⟨v120,h_155,e156,hF⟩:=hF
        replace hF:=z3 hF;obtain⟨t120,c157,hF⟩:=hF
        have c157:=z20 c157;subst c157;refine WD.b 0 (some 120) (.bool t120) h_155 e156 ?_;obtain⟨t121,e158,hF⟩:=z9 hF;refine WD.val (d:=(some 121)) (v:=.bool t121) (h':=h_155) (by kernel_rfl) (by kernel_rfl) (z2a AV.bool e158 (by kernel_rfl)) (k:=0) (by kernel_rfl) (fun e=>absurd e (by decide)) (by decide) (WD.a 0 (some 122) (.bool t121) h_155 (WD.a 0 (some 123) (.bool t121) h_155 ?_))
        cases t121 with
        |true=>
         replace hF:=z55 hF
         exact oD 0 (some 124) (oD 0 (some 126) (oD 0 (some 127) (oD 0 (some 128) (oD 1 (some 129) (WD.not (d:=(some 125)) (by kernel_rfl) (by kernel_rfl) (k:=2) (by kernel_rfl) (fun _=>(by kernel_rfl)) (by decide) (oD 0 (some 130) (WD.a 0 (some 131) (.bool true) h_155 (WD.a 0 (some 132) (.bool true) h_155 (oD 0 (some 133) (oD 0 (some 134) (oD 0 (some 135) (oD 0 (some 136) (oD 0 (some 137) (oD 0 (some 138) (oD 0 (some 139) (oD 1 (some 140) (oD 0 (some 141) (WD.a 0 (some 142) (.bool true) h_155 (WD.a 0 (some 143) (.bool true) h_155 (oD 0 (some 144) (oD 0 (some 145) (oD 0 (some 146) (oD 0 (some 147) (oD 0 (some 148) (oD 0 (some 149) (oD 0 (some 150) (oD 1 (some 151) (oD 0 (some 152) (WD.a 0 (some 153) (.bool true) h_155 (WD.a 0 (some 154) (.bool true) h_155 (oD 0 (some 155) (oD 0 (some 157) (oD 0 (some 158) (oD 0 (some 159) (oD 0 (some 160) (oD 0 (some 161) (oD 1 (some 162) (oD 0 (some 163) (WD.not (d:=(some 156)) (by kernel_rfl) (by kernel_rfl) (k:=2) (by kernel_rfl) (fun _=>(by kernel_rfl)) (by decide) (oD 0 (some 164) (WD.a 0 (some 165) (.bool true) h_155 (WD.nil (gW _ (J82 _ _ hF))))))))))))))))))))))))))))))))))))))))))))
        |false=>
         replace hF:=z56 hF
         refine WD.a 0 (some 124) r24 h_155 (WD.a 0 (some 126) r25 h_155 ?_);obtain⟨t127,e159,hF⟩:=z3 hF;refine WD.b 0 (some 127) t127 h_155 (z24 (h:=h_155) e159) ?_;obtain⟨t128,e160,hF⟩:=z3 hF;refine WD.b 0 (some 128) t128 h_155 (z15 (P:=Try.prog) (h:=h_155) (s:=61) (f:=2) (by kernel_rfl) e160) ?_
         replace hF:=z3 hF;obtain⟨v129,e161,hF⟩:=hF
         replace hF:=z3 hF;obtain⟨t129,c162,hF⟩:=hF
         have c162:=z19 c162;subst c162;refine WD.b 1 (some 129) (.int .i64 t129) h_155 (z14 (P:=Try.prog) (h:=h_155) (t:=3) (by kernel_rfl) e161) ?_
         replace hF:=z1b hF;obtain⟨r125,h_163,e164,hF⟩:=hF
         replace hF:=z3 hF;obtain⟨t125,c165,hF⟩:=hF
         have c165:=z19 c165;subst c165;obtain⟨k166,hF⟩:=z73 hF;refine WD.call (d:=(some 125)) (by kernel_rfl) (by kernel_rfl) (by kernel_rfl) e164 (k:=2) (by kernel_rfl) (fun _=>(Eq.trans (by kernel_rfl) k166)) (by decide) ?_;obtain⟨t130,e167,hF⟩:=z9 hF;refine WD.val (d:=(some 130)) (v:=.bool t130) (h':=h_163) (by kernel_rfl) (by kernel_rfl) (z2a AV.bool e167 (by kernel_rfl)) (k:=0) (by kernel_rfl) (fun e=>absurd e (by decide)) (by decide) (WD.a 0 (some 131) (.bool t130) h_163 (WD.a 0 (some 132) (.bool t130) h_163 ?_))
         cases t130 with
         |true=>
          replace hF:=z55 hF
          exact oD 0 (some 133) (oD 0 (some 134) (oD 0 (some 135) (oD 0 (some 136) (oD 0 (some 137) (oD 0 (some 138) (oD 0 (some 139) (oD 1 (some 140) (oD 0 (some 141) (WD.a 0 (some 142) (.bool true) h_163 (WD.a 0 (some 143) (.bool true) h_163 (oD 0 (some 144) (oD 0 (some 145) (oD 0 (some 146) (oD 0 (some 147) (oD 0 (some 148) (oD 0 (some 149) (oD 0 (some 150) (oD 1 (some 151) (oD 0 (some 152) (WD.a 0 (some 153) (.bool true) h_163 (WD.a 0 (some 154) (.bool true) h_163 (oD 0 (some 155) (oD 0 (some 157) (oD 0 (some 158) (oD 0 (some 159) (oD 0 (some 160) (oD 0 (some 161) (oD 1 (some 162) (oD 0 (some 163) (WD.not (d:=(some 156)) (by kernel_rfl) (by kernel_rfl) (k:=2) (by kernel_rfl) (fun _=>(by kernel_rfl)) (by decide) (oD 0 (some 164) (WD.a 0 (some 165) (.bool true) h_163 (WD.nil (gW _ (J82 _ _ hF)))))))))))))))))))))))))))))))))))
         |false=>
          replace hF:=z56 hF
          refine WD.a 0 (some 133) (zc t111) h_163 (WD.a 0 (some 134) r25 h_163 ?_);obtain⟨t135,e168,hF⟩:=z3 hF;refine WD.b 0 (some 135) t135 h_163 (z24 (h:=h_163) e168) ?_;obtain⟨t136,e169,hF⟩:=z3 hF;refine WD.b 0 (some 136) t136 h_163 (z15 (P:=Try.prog) (h:=h_163) (s:=61) (f:=0) (by kernel_rfl) e169) ?_;obtain⟨t137,e170,hF⟩:=z3 hF;refine WD.b 0 (some 137) t137 h_163 (zbb (P:=Try.prog) (h:=h_163) (t:=59) (e':=58) (k:=.i64) (by kernel_rfl) (by kernel_rfl) (by kernel_rfl) e170) ?_;obtain⟨t138,e171,hF⟩:=z3 hF;refine WD.b 0 (some 138) t138 h_163 (z15 (P:=Try.prog) (h:=h_163) (s:=58) (f:=0) (by kernel_rfl) e171) ?_;obtain⟨t139,e172,hF⟩:=z3 hF;refine WD.b 0 (some 139) t139 h_163 (z15 (P:=Try.prog) (h:=h_163) (s:=55) (f:=1) (by kernel_rfl) e172) ?_
          replace hF:=z3 hF;obtain⟨v140,e173,hF⟩:=hF
          replace hF:=z3 hF;obtain⟨t140,c174,hF⟩:=hF
          have c174:=z1d c174;subst c174;refine WD.b 1 (some 140) (zc t140) h_163 (z14 (P:=Try.prog) (h:=h_163) (t:=9) (by kernel_rfl) e173) ?_;obtain⟨t141,e175,hF⟩:=z9 hF;refine WD.val (d:=(some 141)) (v:=.bool t141) (h':=h_163) (by kernel_rfl) (by kernel_rfl) (z2a AV.bool e175 (by kernel_rfl)) (k:=0) (by kernel_rfl) (fun e=>absurd e (by decide)) (by decide) (WD.a 0 (some 142) (.bool t141) h_163 (WD.a 0 (some 143) (.bool t141) h_163 ?_))
          cases t141 with
          |true=>
           replace hF:=z55 hF
           exact oD 0 (some 144) (oD 0 (some 145) (oD 0 (some 146) (oD 0 (some 147) (oD 0 (some 148) (oD 0 (some 149) (oD 0 (some 150) (oD 1 (some 151) (oD 0 (some 152) (WD.a 0 (some 153) (.bool true) h_163 (WD.a 0 (some 154) (.bool true) h_163 (oD 0 (some 155) (oD 0 (some 157) (oD 0 (some 158) (oD 0 (some 159) (oD 0 (some 160) (oD 0 (some 161) (oD 1 (some 162) (oD 0 (some 163) (WD.not (d:=(some 156)) (by kernel_rfl) (by kernel_rfl) (k:=2) (by kernel_rfl) (fun _=>(by kernel_rfl)) (by decide) (oD 0 (some 164) (WD.a 0 (some 165) (.bool true) h_163 (WD.nil (gW _ (J82 _ _ hF))))))))))))))))))))))))
          |false=>
           replace hF:=z56 hF
           refine WD.a 0 (some 144) (.bool t112) h_163 (WD.a 0 (some 145) r25 h_163 ?_);obtain⟨t146,e176,hF⟩:=z3 hF;refine WD.b 0 (some 146) t146 h_163 (z24 (h:=h_163) e176) ?_;obtain⟨t147,e177,hF⟩:=z3 hF;refine WD.b 0 (some 147) t147 h_163 (z15 (P:=Try.prog) (h:=h_163) (s:=61) (f:=0) (by kernel_rfl) e177) ?_;obtain⟨t148,e178,hF⟩:=z3 hF;refine WD.b 0 (some 148) t148 h_163 (zbb (P:=Try.prog) (h:=h_163) (t:=59) (e':=58) (k:=.i64) (by kernel_rfl) (by kernel_rfl) (by kernel_rfl) e178) ?_;obtain⟨t149,e179,hF⟩:=z3 hF;refine WD.b 0 (some 149) t149 h_163 (z15 (P:=Try.prog) (h:=h_163) (s:=58) (f:=0) (by kernel_rfl) e179) ?_;obtain⟨t150,e180,hF⟩:=z3 hF;refine WD.b 0 (some 150) t150 h_163 (z15 (P:=Try.prog) (h:=h_163) (s:=55) (f:=0) (by kernel_rfl) e180) ?_
           replace hF:=z3 hF;obtain⟨v151,e181,hF⟩:=hF
           replace hF:=z3 hF;obtain⟨t151,c182,hF⟩:=hF
           have c182:=z20 c182;subst c182;refine WD.b 1 (some 151) (.bool t151) h_163 (z14 (P:=Try.prog) (h:=h_163) (t:=4) (by kernel_rfl) e181) ?_;obtain⟨t152,e183,hF⟩:=z9 hF;refine WD.val (d:=(some 152)) (v:=.bool t152) (h':=h_163) (by kernel_rfl) (by kernel_rfl) (z2a AV.bool e183 (by kernel_rfl)) (k:=0) (by kernel_rfl) (fun e=>absurd e (by decide)) (by decide) (WD.a 0 (some 153) (.bool t152) h_163 (WD.a 0 (some 154) (.bool t152) h_163 ?_))
           cases t152 with
           |true=>
            replace hF:=z55 hF
            exact oD 0 (some 155) (oD 0 (some 157) (oD 0 (some 158) (oD 0 (some 159) (oD 0 (some 160) (oD 0 (some 161) (oD 1 (some 162) (oD 0 (some 163) (WD.not (d:=(some 156)) (by kernel_rfl) (by kernel_rfl) (k:=2) (by kernel_rfl) (fun _=>(by kernel_rfl)) (by decide) (oD 0 (some 164) (WD.a 0 (some 165) (.bool true) h_163 (WD.nil (gW _ (J82 _ _ hF)))))))))))))
           |false=>
            replace hF:=z56 hF
            refine WD.a 0 (some 155) r24 h_163 (WD.a 0 (some 157) r25 h_163 ?_);obtain⟨t158,e184,hF⟩:=z3 hF;refine WD.b 0 (some 158) t158 h_163 (z24 (h:=h_163) e184) ?_;obtain⟨t159,e185,hF⟩:=z3 hF;refine WD.b 0 (some 159) t159 h_163 (z15 (P:=Try.prog) (h:=h_163) (s:=61) (f:=0) (by kernel_rfl) e185) ?_;obtain⟨t160,e186,hF⟩:=z3 hF;refine WD.b 0 (some 160) t160 h_163 (zbb (P:=Try.prog) (h:=h_163) (t:=59) (e':=58) (k:=.i64) (by kernel_rfl) (by kernel_rfl) (by kernel_rfl) e186) ?_;obtain⟨t161,e187,hF⟩:=z3 hF;refine WD.b 0 (some 161) t161 h_163 (z15 (P:=Try.prog) (h:=h_163) (s:=58) (f:=1) (by kernel_rfl) e187) ?_;obtain⟨v162,e188,hF⟩:=z3 hF;refine WD.b 1 (some 162) v162 h_163 (z14 (P:=Try.prog) (h:=h_163) (t:=56) (by kernel_rfl) e188) ?_;obtain⟨t163,e189,hF⟩:=z3 hF;refine WD.b 0 (some 163) (.int .i64 t163) h_163 (z422 (P:=Try.prog) (h:=h_163) (t:=56) (e':=67) (by kernel_rfl) e189) ?_
            replace hF:=z1b hF;obtain⟨r156,h_190,e191,hF⟩:=hF
            replace hF:=z3 hF;obtain⟨t156,c192,hF⟩:=hF
            have c192:=z19 c192;subst c192;obtain⟨k193,hF⟩:=z73 hF;refine WD.call (d:=(some 156)) (by kernel_rfl) (by kernel_rfl) (by kernel_rfl) e191 (k:=2) (by kernel_rfl) (fun _=>(Eq.trans (by kernel_rfl) k193)) (by decide) ?_;obtain⟨t164,e194,hF⟩:=z9 hF;exact WD.val (d:=(some 164)) (v:=.bool t164) (h':=h_190) (by kernel_rfl) (by kernel_rfl) (z2a AV.bool e194 (by kernel_rfl)) (k:=0) (by kernel_rfl) (fun e=>absurd e (by decide)) (by decide) (WD.a 0 (some 165) (.bool t164) h_190 (WD.nil (gW _ (J82 _ _ hF))))
      cases t82 with
      |true=>
       refine oT hF fun hF=>W.s (fun K195 n195 e195 q195 p195=>?_);obtain⟨k196,e196,hF⟩:=z9 hF
       have J196:∀(t95:Bool) (h_197:AHeap),k196 t95 h_197=some (rR,hR)→Go w0 m0 (Func.ntmps Try.f5) (K195 .normal) [(3,r24),(4,r25),(5,t5),(6,.int .i64 t6),(7,t7),(8,.int .i64 t8),(10,(z1a h_40)),(36,t0),(37,.int .i64 t37),(38,.int .i64 t38),(95,.bool t95)] [] h_197:=by
        intro t95 h_197 hF;rw[e196] at hF;refine n195 ?_
        cases t95 with
        |true=>
         exact oT hF fun hF=>oG fun n198=>W.r (oA 2 (.bool false) (oV [(2,.bool false)] (n198 (oY (q64 (q60 (q45 (q44 (q39 (q35 (q32 (lZ hF [.tmp 2] [.bool false] (rT zd)))))))))))))
        |false=>
         exact oU hF fun hF=>oZ (gW _ (J67 _ _ _ _ _ hF))
       refine y14 (by kernel_rfl) (hc.ok w0) (plan:=[0,1,2,3,4,5,7,8,9,6,10,11,12]) (by kernel_rfl) (by kernel_rfl) (by kernel_rfl) (WD.a 0 (some 83) t5 h_58 ?_)
       replace hF:=z1e hF;obtain⟨v84,h_199,e200,hF⟩:=hF
       replace hF:=z3 hF;obtain⟨t84,c201,hF⟩:=hF
       have c201:=z20 c201;subst c201;refine WD.b 0 (some 84) (.bool t84) h_199 e200 (WD.a 0 (some 85) (.bool t84) h_199 ?_)
       cases t84 with
       |true=>
        replace hF:=z55 hF
        refine WD.a 0 (some 86) t5 h_199 (WD.a 0 (some 87) (AV.ptr (AHeap.next h_40) 2) h_199 ?_);obtain⟨t88,e202,hF⟩:=z3 hF;refine WD.b 1 (some 88) (.agg t88) h_199 (z35 (P:=Try.prog) (h:=h_199) (t:=35) (by kernel_rfl) (by kernel_rfl) e202) (WD.a 0 (some 90) t7 h_199 (WD.a 0 (some 91) (AV.ptr (AHeap.next h_40) 2) h_199 ?_));obtain⟨t92,e203,hF⟩:=z3 hF;refine WD.b 1 (some 92) (.agg t92) h_199 (z35 (P:=Try.prog) (h:=h_199) (t:=35) (by kernel_rfl) (by kernel_rfl) e203) ?_
        replace hF:=z1b hF;obtain⟨r89,h_204,e205,hF⟩:=hF
        replace hF:=z3 hF;obtain⟨t89,c206,hF⟩:=hF
        have c206:=z19 c206;subst c206;obtain⟨k207,hF⟩:=z73 hF;refine WD.call (d:=(some 89)) (by kernel_rfl) (by kernel_rfl) (by kernel_rfl) e205 (k:=2) (by kernel_rfl) (fun _=>(Eq.trans (by kernel_rfl) k207)) (by decide) ?_
        replace hF:=z1b hF;obtain⟨r93,h_208,e209,hF⟩:=hF
        replace hF:=z3 hF;obtain⟨t93,c210,hF⟩:=hF
        have c210:=z19 c210;subst c210;refine WD.call (d:=(some 93)) (by kernel_rfl) (by kernel_rfl) (by kernel_rfl) e209 (k:=2) (by kernel_rfl) (fun _=>(by kernel_rfl)) (by decide) ?_;obtain⟨t94,e211,hF⟩:=z9 hF;exact WD.val (d:=(some 94)) (v:=.bool t94) (h':=h_208) (by kernel_rfl) (by kernel_rfl) (z2a AV.bool e211 (by kernel_rfl)) (k:=0) (by kernel_rfl) (fun e=>absurd e (by decide)) (by decide) (WD.a 0 (some 95) (.bool t94) h_208 (WD.nil (gW _ (J196 _ _ hF))))
       |false=>
        replace hF:=z56 hF
        exact oD 0 (some 86) (oD 0 (some 87) (oD 1 (some 88) (oD 0 (some 90) (oD 0 (some 91) (oD 1 (some 92) (WD.not (d:=(some 89)) (by kernel_rfl) (by kernel_rfl) (k:=2) (by kernel_rfl) (fun _=>(by kernel_rfl)) (by decide) (WD.not (d:=(some 93)) (by kernel_rfl) (by kernel_rfl) (k:=2) (by kernel_rfl) (fun _=>(by kernel_rfl)) (by decide) (oD 0 (some 94) (WD.a 0 (some 95) (.bool false) h_199 (WD.nil (gW _ (J196 _ _ hF))))))))))))
      |false=>
       refine oU hF fun hF=>oG fun n212=>W.r (oB 97 hF fun t97 hF=>oA 96 (.bool t97) (oV [(3,r24),(4,r25),(5,t5),(6,.int .i64 t6),(7,t7),(8,.int .i64 t8),(10,(z1a h_40)),(36,t0),(37,.int .i64 t37),(38,.int .i64 t38),(96,.bool t97)] (n212 ?_)));obtain⟨k214,e214,hF⟩:=z9 hF
       have J214:∀(t5_215:AV) (t6_216:Int) (t7_217:AV) (t8_218:Int) (h_219:AHeap),k214 t5_215 t6_216 t7_217 t8_218 h_219=some (rR,hR)→Go w0 m0 (Func.ntmps Try.f5) (K64 .normal) [(3,r24),(4,r25),(5,t5_215),(6,.int .i64 t6_216),(7,t7_217),(8,.int .i64 t8_218),(10,(z1a h_40)),(36,t0),(37,.int .i64 t37),(38,.int .i64 t38)] [] h_219:=by
        intro t5_215 t6_216 t7_217 t8_218 h_219 hF;rw[e214] at hF;exact gW _ (J67 _ _ _ _ _ hF)
       cases t97 with
       |true=>
        exact oT hF fun hF=>oG fun n220=>W.r (oA 98 r25 (oA 99 (AV.ptr (AHeap.next h_40) 1) (oLi 100 3 hF fun t100 hF=>oI 101 .i64 hF fun t101 hF=>oC0 102 hF fun t102 hF=>oF 103 61 1 hF fun t103 hF=>oW 3 (.int .i64 t101) hF fun h_226 hF=>oV [(3,r24),(4,r25),(5,t5),(6,.int .i64 t6),(7,t7),(8,.int .i64 t8),(10,(z1a h_40)),(36,t0),(37,.int .i64 t37),(38,.int .i64 t38)] (n220 (W.r (oA 104 r24 (oA 105 (AV.ptr (AHeap.next h_40) 1) (oLi 106 3 hF fun t106 hF=>oCi hc 107 hF fun t107 h_230 hF=>oV [(3,r24),(4,r25),(5,t5),(6,.int .i64 t6),(7,t7),(8,.int .i64 t8),(10,(z1a h_40)),(36,t0),(37,.int .i64 t37),(38,.int .i64 t38)] (gW _ (J214 _ _ _ _ _ hF))))))))))
       |false=>
        refine oU hF fun hF=>oG fun n233=>W.r (oA 44 (AV.ptr (AHeap.next h_40) 8) (oLi 45 3 hF fun t45 hF=>oK 46 hF fun v46 h_236 hF=>oA 11 v46 (oV [(3,r24),(4,r25),(10,(z1a h_40)),(11,v46),(36,t0),(37,.int .i64 t37),(38,.int .i64 t38)] (n233 (W.s (fun K238 n238 e238 q238 p238=>oG fun n239=>W.r (oA 47 (AV.ptr (AHeap.next h_40) 0) (oLi 48 3 hF fun t48 hF=>oB 49 hF fun t49 hF=>oV [(3,r24),(4,r25),(10,(z1a h_40)),(11,v46),(36,t0),(37,.int .i64 t37),(38,.int .i64 t38),(49,.bool t49)] (n239 ?_)))))))));obtain⟨k243,e243,hF⟩:=z9 hF
        have J243:∀(t11:AV) (h_244:AHeap),k243 t11 h_244=some (rR,hR)→Go w0 m0 (Func.ntmps Try.f5) (K238 .normal) [(3,r24),(4,r25),(10,(z1a h_40)),(11,t11),(36,t0),(37,.int .i64 t37),(38,.int .i64 t38)] [] h_244:=by
         intro t11 h_244 hF;rw[e243] at hF;exact n238 (oG fun n245=>W.r (oA 61 r25 (oA 62 t11 (oA 63 (AV.ptr (AHeap.next h_40) 1) (oLi 64 3 hF fun t64 hF=>oC hc (some 65) hF fun r65 h_248 hF=>oV [(3,r24),(4,r25),(10,(z1a h_40)),(11,t11),(36,t0),(37,.int .i64 t37),(38,.int .i64 t38)] (n245 (oG fun n250=>W.r (oA 66 r24 (oA 67 t11 (oA 68 (AV.ptr (AHeap.next h_40) 1) (oLi 69 3 hF fun t69 hF=>oCi hc 70 hF fun t70 h_253 hF=>oV [(3,r24),(4,r25),(10,(z1a h_40)),(36,t0),(37,.int .i64 t37),(38,.int .i64 t38)] (n250 (oG fun n256=>W.r (oA 72 r24 (oC hc (some 73) hF fun r73 h_257 hF=>oA 71 r73 (oE 74 hF fun v74 hF=>oEi 75 hF fun t75 hF=>oA 5 v74 (oA 6 (.int .i64 t75) (oV [(3,r24),(4,r25),(5,v74),(6,.int .i64 t75),(10,(z1a h_40)),(36,t0),(37,.int .i64 t37),(38,.int .i64 t38)] (n256 (W.r (oA 77 r25 (oC hc (some 78) hF fun r78 h_262 hF=>oA 76 r78 (oE 79 hF fun v79 hF=>oEi 80 hF fun t80 hF=>oA 7 v79 (oA 8 (.int .i64 t80) (oV [(3,r24),(4,r25),(5,v74),(6,.int .i64 t75),(7,v79),(8,.int .i64 t80),(10,(z1a h_40)),(36,t0),(37,.int .i64 t37),(38,.int .i64 t38)] (gW _ (J214 _ _ _ _ _ hF)))))))))))))))))))))))))))
        cases t49 with
        |true=>
         refine oT hF fun hF=>oH fun n267 q267=>oG fun n268=>y14 (by kernel_rfl) (hc.ok w0) (plan:=[0,1,2,4,5,6,7,3,8,9]) (by kernel_rfl) (by kernel_rfl) (by kernel_rfl) (WD.a 0 (some 50) r24 h_236 (WD.a 0 (some 51) (AV.ptr (AHeap.next h_40) 7) h_236 ?_))
         replace hF:=z3 hF;obtain⟨v52,e269,hF⟩:=hF
         replace hF:=z3 hF;obtain⟨t52,c270,hF⟩:=hF
         have c270:=z1d c270;subst c270;refine WD.b 1 (some 52) (zc t52) h_236 (z14 (P:=Try.prog) (h:=h_236) (t:=9) (by kernel_rfl) e269) (WD.a 0 (some 54) r25 h_236 (WD.a 0 (some 55) (AV.ptr (AHeap.next h_40) 7) h_236 ?_))
         replace hF:=z3 hF;obtain⟨v56,e271,hF⟩:=hF
         replace hF:=z3 hF;obtain⟨t56,c272,hF⟩:=hF
         have c272:=z1d c272;subst c272;refine WD.b 1 (some 56) (zc t56) h_236 (z14 (P:=Try.prog) (h:=h_236) (t:=9) (by kernel_rfl) e271) (WD.a 0 (some 57) (.agg ([.int .i64 1,zc t56,.int .i64 0]:List AV)) h_236 ?_)
         replace hF:=z1b hF;obtain⟨r53,h_273,e274,hF⟩:=hF
         replace hF:=z3 hF;obtain⟨t53,c275,hF⟩:=hF
         have c275:=z19 c275;subst c275;obtain⟨k276,hF⟩:=z73 hF;refine WD.call (d:=(some 53)) (by kernel_rfl) (by kernel_rfl) (by kernel_rfl) e274 (k:=2) (by kernel_rfl) (fun _=>(Eq.trans (by kernel_rfl) k276)) (by decide) ?_
         replace hF:=z1b hF;obtain⟨r58,h_277,e278,hF⟩:=hF
         replace hF:=z3 hF;obtain⟨t58,c279,hF⟩:=hF
         have c279:=z19 c279;subst c279;refine WD.call (d:=(some 58)) (by kernel_rfl) (by kernel_rfl) (by kernel_rfl) e278 (k:=2) (by kernel_rfl) (fun _=>(by kernel_rfl)) (by decide) ?_;obtain⟨t59,e280,hF⟩:=z9 hF;refine WD.val (d:=(some 59)) (v:=.bool t59) (h':=h_277) (by kernel_rfl) (by kernel_rfl) (z2a AV.bool e280 (by kernel_rfl)) (k:=0) (by kernel_rfl) (fun e=>absurd e (by decide)) (by decide) (WD.nil (gW [(3,r24),(4,r25),(10,(z1a h_40)),(36,t0),(37,.int .i64 t37),(38,.int .i64 t38),(59,.bool t59)] (n268 ?_)))
         cases t59 with
         |true=>
          exact oT hF fun hF=>oG fun n281=>W.r (oA 2 (.bool false) (oV [(2,.bool false)] (n281 (oY (q267 (q238 (q64 (q60 (q45 (q44 (q39 (q35 (q32 (lZ hF [.tmp 2] [.bool false] (rT zd)))))))))))))))
         |false=>
          exact oU hF fun hF=>oZ (n267 (W.r (oK 60 hF fun v60 h_282 hF=>oA 11 v60 (oV [(3,r24),(4,r25),(10,(z1a h_40)),(11,v60),(36,t0),(37,.int .i64 t37),(38,.int .i64 t38)] (gW _ (J243 _ _ hF))))))
        |false=>
         exact oU hF fun hF=>oZ (gW _ (J243 _ _ hF))
     |false=>
      exact oU hF fun hF=>W.exit (by kernel_rfl) (e43 (e39 (s35 (by kernel_rfl) (gW _ (J36 _ hF)))))
   exact gW _ (L39 _ _ _ _ _ _ _ hF)
theorem SOk.addJ{s:DS}{B:Nat}(k:SOk s B)(L:List Snd)(br:Int){x:Snd}{u:Bytes}(hu:z71 (z17e x)=u):SOk (addJ s L br x u).2.2.2 (B+200):=by
 unfold Go.Proofs.Ytbhblbffdmiepaa.addJ
 split
 ·exact k.mono (by omega)
 ·split
  ·exact k.mono (by omega)
  ·rename_i hm
   have hc:=(z41f (show z3fb L x=0 by simpa using hm)).1
   have hul:u.length≤112:=by
    have:=(zd7 hc).2;rw[←hu,z98,z14e];omega
   have h2:SOk (z10f s 0 (chA u)) (B+150):=(k.act (c:=chA u) (.inl rfl)).mono (by show B+u.length+1≤_;omega)
   split
   ·exact h2.mono (by omega)
   ·split
    ·exact(h2.syn 0).mono (by omega)
    ·exact(h2.syn 0).mono (by omega)
theorem addJ_list{s:DS}{L:List Snd}{br:Int}{x:Snd}{u:Bytes}(hok:∀x∈L,z30 x=0):(∀y∈(addJ s L br x u).2.1,z30 y=0)∧(addJ s L br x u).2.1.length≤L.length+1:=by
 have same:(∀y∈L,z30 y=0)∧L.length≤L.length+1:=⟨hok,Nat.le_succ _⟩;unfold addJ
 split
 ·exact same
 ·split
  ·exact same
  ·rename_i hm
   have hc:=(z41f (show z3fb L x=0 by simpa using hm)).1
   split
   ·exact same
   ·split
    ·exact same
    ·refine ⟨fun y hy => ?_, by show (L ++ [x]).length ≤ _; rw [List.length_append, List.length_singleton]; exact Nat.le_refl _⟩
     rcases List.mem_append.1 hy with hy|hy
     ·exact hok y hy
     ·rw [List.mem_singleton.1 hy]
      exact hc
theorem eqRJ(b:Nat)(h:AHeap):z6f Try.prog h .eql 49 true (some (.ptr b 0)) (some AV.nilp)=some (.val (.bool false),h):=by kernel_rfl
theorem neqJou(b:Nat)(h:AHeap):z6f Try.prog h .neq 25 true (some (.ptr b 0)) (some AV.nilp)=some (.val (.bool true),h):=by kernel_rfl
structure Dd (N:Nat) (lo lo2:Nat→Prop) (H:AHeap) (db rb:Nat) (s:DS) (B:Nat):Prop where
 K:At lo H db s B
 V:RefAt lo2 H rb s
 ok:SOk s B
 sub:∀b,lo b→lo2 b
 hl:∀b,lo2 b→N≤b
 hr:N≤rb
 hN:N≤H.next
structure Du (N:Nat) (lo lo2 nb:Nat→Prop) (H:AHeap) (db rb jb yb:Nat) (lv:AV) (s:DS) (L:List Snd) (br:Int) (B:Nat):Prop where
 dd:Dd N lo lo2 H db rb s B
 J:JAt nb H jb db L br
 R:RJ H yb rb lv L br
 sepn:∀b,nb b→¬lo b∧lo2 b∧b<H.next
 hy1:¬lo yb
 hy2:lo2 yb
 hv:∀b∈z43 lv,¬lo b∧lo2 b
 sepr:∀b,nb b→b≠yb∧b ∉ z43 lv
 ok:∀x∈L,z30 x=0
 hL:L.length≤B
section
variable {N n d D db rb jb yb B:Nat}{lo lo2 nb lo':Nat→Prop}{h0 H H':AHeap}{s:DS}{L:List Snd}{br:Int}{x:Snd}{u:Bytes}{lv:AV}{Q:ARes→AHeap→Prop}
theorem Dd.nr(Y:Dd N lo lo2 H db rb s B):¬lo2 rb∧rb<H.next:=by
 obtain⟨_,_,V⟩:=Y.V;exact⟨V.nlo,V.hrb⟩
theorem Dd.alloc(Y:Dd N lo lo2 H db rb s B)(T:Tch [] H H'):Dd N (shr lo H.next H'.next) (shr lo2 H.next H'.next) H' db rb s B:=
 ⟨Y.K.part T (fun _ h=>nomatch h),Y.V.tch T (fun _ h=>nomatch h) (fun _ h _=>h.1),Y.ok,fun b hb=>⟨Y.sub b hb.1,hb.2⟩,fun b hb=>Y.hl b hb.1,Y.hr,Nat.le_trans Y.hN T.1⟩
theorem Du.alloc(Y:Du N lo lo2 nb H db rb jb yb lv s L br B)(T:Tch [] H H'):Du N (shr lo H.next H'.next) (shr lo2 H.next H'.next) nb H' db rb jb yb lv s L br B:=
 ⟨Y.dd.alloc T,Y.J.tch T (fun _ h=>nomatch h),Y.R.tch T (fun h=>nomatch h) (fun _ _ h=>nomatch h),fun b hb=>⟨fun h=>(Y.sepn b hb).1 h.1,⟨(Y.sepn b hb).2.1,.inl (Y.sepn b hb).2.2⟩,Nat.lt_of_lt_of_le (Y.sepn b hb).2.2 T.1⟩,fun h=>Y.hy1 h.1,⟨Y.hy2,.inl Y.R.hyb⟩,fun b hb=>⟨fun h=>(Y.hv b hb).1 h.1,⟨(Y.hv b hb).2,.inl (Y.R.sl.lt b hb)⟩⟩,Y.sepr,Y.ok,Y.hL⟩
theorem Dd.crash(Y:Dd N lo lo2 H db rb s B)(hn:1000000<n)(hB:B<900000){torn:Int}(ht:torn<9223372036854775808){lv:AV}{zs:List Int}(hz:zs.length<9223372036854775808)(rd:RdI (fun b=>lo2 b∨b=rb) H lv zs):
  ∃H1 H2 S2,wL n (D+6) (d+1) false 25 [.ptr rb 0,lv,.int .i64 torn] H=some (.ret (.tup []),H1)∧Tch [rb] H H1∧wL n (D+6) (d+1) false 13 [.ptr db 0,lv,.int .i64 torn] H1=some (.ret (.int .i64 0),H2)∧Tch S2 H1 H2∧(∀b∈S2,lo b)∧Dd N lo lo2 H2 db rb (z2f9 s zs torn) B:=by
 obtain⟨nr,lr⟩:=Y.nr;obtain⟨H1,e1,t1,V1⟩:=crash_r (n:=n) (d:=D+4) hn Y.V Y.ok hB ht rd;have K1:=Y.K.tch t1 (fun b hb=>.inl (by rw[List.mem_singleton.1 hb];exact fun h=>nr (Y.sub _ h)));have rd1:=rd.tch t1 (fun b hb=>.inr (List.mem_singleton.1 hb));have rd2:RdI lo H1 lv zs:=⟨rd1.1,fun S h t hS i hi=>rd1.2 S h t (fun b hb=>.inl (Y.sub b (hS b hb))) i hi⟩;obtain⟨H2,S2,e2,K2,t2,hS2⟩:=z478 (n:=n) (d:=D+2) hn hB ht hz K1 rd2;exact⟨H1,H2,S2,(z22a 25).trans e1,t1,(z22a 13).trans e2,t2,hS2,K2,V1.tch t2 (fun b hb=>.inl (Y.sub b (hS2 b hb))) (fun _ h _=>h),Y.ok.crash zs torn,Y.sub,Y.hl,Y.hr,Nat.le_trans Y.hN (Nat.le_trans t1.1 t2.1)⟩
theorem Dd.open(Y:Dd N lo lo2 H db rb s B)(hp:s.p= -1)(hn:1000000000<n)(hB:B<300000):
  ∃lo' lo2' nb' H1 H2 S1 jb yb lv,wL n (D+7) (d+6) false 9 [.ptr db 0] H=some (.ret (.tup [.ptr jb 0,.int .i64 0]),H1)∧Tch S1 H H1∧(∀b∈S1,lo b)∧
   wL n (D+7) (d+6) false 20 [.ptr rb 0] H1=some (.ret (.tup [.ptr yb 0,.int .i64 0]),H2)∧Tch [rb] H1 H2∧Du N lo' lo2' nb' H2 db rb jb yb lv (opS s) (opL s) 0 (B+6)∧∀b,lo2' b→b<H.next→lo2 b:=by
 obtain⟨nr,lr⟩:=Y.nr;have hrl:=Y.K.read_len;obtain⟨lo1,nb1,H1,jb,S1,e1,K1,J1,L1,N1,t1,hS1⟩:=jopen_w (n:=n) (D:=D+1) (d:=d) Y.K hp hn (by omega);have n1:=t1.1;have V1:RefAt (fun b=>lo2 b∨H.next≤b) H1 rb s:=Y.V.tch t1 (fun b hb=>.inl (Y.sub b (hS1 b hb))) (fun b hb hlt=>hb.resolve_right (by omega));obtain⟨H2,yb,lv,e2,R2,hy,hlv,t2,V2⟩:=ropen_w (n:=n) (d:=D) hn V1 Y.ok (by omega) K1.ex hp;have n2:=t2.1;have nr1:¬lo1 rb:=fun h=>nr (Y.sub _ (L1 _ h));have K2:=K1.part t2 (fun b hb=>.inl (by rw[List.mem_singleton.1 hb];exact nr1))
 have J2:=J1.tch t2 (fun b hb h=>by
  rw[List.mem_singleton.1 hb] at h;have:=(N1 _ h).1;omega)
 have hNH:=Y.hN;have hyb:=R2.hyb;have hol:=opL_len s;refine⟨_,_,nb1,H1,H2,S1,jb,yb,lv,e1,t1,hS1,(z22a 20).trans e2,t2,⟨⟨K2.mono (by omega),V2,Y.ok.opS.mono (by omega),fun b hb=>.inl ⟨.inl (Y.sub b (L1 b hb.1)),hb.2⟩,fun b hb=>?_,Y.hr,by omega⟩,J2,R2,fun b hb=>?_,fun hh=>?_,.inr (.inl rfl),fun b hb=>⟨fun hh=>?_,.inr (.inr hb)⟩,fun b hb=>⟨?_,fun hh=>?_⟩,opL_ok s,by omega⟩,fun b hb hlt=>?_⟩
 ·rcases hb with ⟨hb | hb, _⟩ | rfl | hb
  ·exact Y.hl b hb
  ·omega
  ·omega
  ·have := hlv b hb
   omega
 ·obtain ⟨a1, a2, a3⟩ := N1 b hb
  exact⟨fun h=>a2 h.1,.inl ⟨.inr a1,.inl a3⟩,by omega⟩
 ·rcases hh.2 with h|h<;>omega
 ·have h1 := hlv b hb
  have h2:=R2.sl.lt b hb
  rcases hh.2 with h|h<;>omega
 ·have := (N1 b hb).2.2
  omega
 ·have h1 := hlv b hh
  have:=(N1 b hb).2.2;omega
 ·rcases hb with ⟨hb | hb, _⟩ | rfl | hb
  ·exact hb
  ·omega
  ·omega
  ·have := hlv b hb
   omega
theorem Du.add(Y:Du N lo lo2 nb H db rb jb yb lv s L br B)(hn:1000000<n)(hB:B<300000)(x:Snd)(hs:x.s.length≤1000000000):
  ∃lo' lo2' nb' H1 H2 S1 S2 lv' e s' L' br',wL n (D+7) (d+1) false 11 [.ptr jb 0,.agg (z93 x)] H=some (.ret (.int .i64 e),H1)∧Tch S1 H H1∧(∀b∈S1,lo2 b)∧
   wL n (D+7) (d+1) false 21 [.ptr yb 0,.agg (z93 x)] H1=some (.ret (.int .i64 e),H2)∧Tch S2 H1 H2∧(∀b∈S2,b=rb∨lo2 b)∧Du N lo' lo2' nb' H2 db rb jb yb lv' s' L' br' (B+200)∧∀b,lo2' b→b<H.next→lo2 b:=by
 obtain⟨nr,lr⟩:=Y.dd.nr;obtain⟨u,hu⟩:∃u,z71 (z17e x)=u:=⟨_,rfl⟩;have hL:=Y.hL;obtain⟨lo1,nb1,H1,S1,e1,K1,J1,L1,N1,t1,hS1⟩:=jadd_w (n:=n) (D:=D+1) (d:=d) Y.dd.K Y.J (fun b hb=>⟨(Y.sepn b hb).1,(Y.sepn b hb).2.2⟩) Y.ok (by omega) hn (by omega) hs hu;have n1:=t1.1;have hS1':∀b∈S1,lo2 b:=fun b hb=>(hS1 b hb).elim (Y.dd.sub b) fun h=>(Y.sepn b h).2.1;have V1:RefAt (fun b=>lo2 b∨H.next≤b) H1 rb s:=Y.dd.V.tch t1 (fun b hb=>.inl (hS1' b hb)) (fun b hb hlt=>hb.resolve_right (by omega));have R1:=Y.R.tch t1 (fun h=>(hS1 _ h).elim Y.hy1 fun h=>(Y.sepr _ h).1 rfl) (fun b hb h=>(hS1 b h).elim (Y.hv b hb).1 fun h=>(Y.sepr b h).2 hb);obtain⟨H2,lv2,e2,R2,hv2,t2,V2⟩:=radd_w (n:=n) (d:=D+1) (x:=x) hn V1 Y.dd.ok (by omega) K1.ex R1 (.inl Y.hy2) (fun b hb=>.inl (Y.hv b hb).2) Y.ok (by omega) hu;have n2:=t2.1;have hyb:=Y.R.hyb;have hlt:=Y.R.sl.lt
 have hS2:∀b∈rb::yb::z43 lv,b=rb∨b=yb∨b∈z43 lv:=fun b hb=>by
  rcases List.mem_cons.1 hb with h|hb
  ·exact .inl h
  ·rcases List.mem_cons.1 hb with h | hb
   ·exact .inr (.inl h)
   ·exact .inr (.inr hb)
 have K2:=K1.part t2 (fun b hb=>.inl fun h=>by
  rcases hS2 b hb with rfl|rfl|hb
  ·exact nr (Y.dd.sub _ (L1 _ h))
  ·exact Y.hy1 (L1 _ h)
  ·exact(Y.hv b hb).1 (L1 _ h))
 have J2:=J1.tch t2 (fun b hb h=>by
  rcases(N1 b h).1 with hn|hn
  ·rcases hS2 b hb with rfl | rfl | hb
   ·exact nr (Y.sepn _ hn).2.1
   ·exact(Y.sepr _ hn).1 rfl
   ·exact(Y.sepr _ hn).2 hb
  ·rcases hS2 b hb with rfl | rfl | hb
   ·omega
   ·omega
   ·have := hlt b hb
    omega)
 have hNH:=Y.dd.hN;obtain⟨a1,a2⟩:=addJ_list (s:=s) (br:=br) (x:=x) (u:=u) Y.ok;refine⟨_,_,nb1,H1,H2,S1,rb::yb::z43 lv,lv2,_,_,_,_,e1,t1,hS1',(z22a 21).trans e2,t2,fun b hb=>?_,⟨⟨K2,V2,Y.dd.ok.addJ L br hu,fun b hb=>.inl ⟨.inl (Y.dd.sub b (L1 b hb.1)),hb.2⟩,fun b hb=>?_,Y.dd.hr,by omega⟩,J2,R2,fun b hb=>?_,fun hh=>Y.hy1 (L1 _ hh.1),.inl ⟨.inl Y.hy2,.inl (by omega)⟩,fun b hb=>⟨fun hh=>?_,.inr hb⟩,fun b hb=>⟨?_,fun hh=>?_⟩,a1,by omega⟩,fun b hb hlt=>?_⟩
 ·rcases hS2 b hb with rfl | rfl | hb
  ·exact .inl rfl
  ·exact .inr Y.hy2
  ·exact .inr (Y.hv b hb).2
 ·rcases hb with ⟨hb | hb, _⟩ | hb
  ·exact Y.dd.hl b hb
  ·omega
  ·rcases hv2 b hb with hb | hb
   ·exact Y.dd.hl b (Y.hv b hb).2
   ·omega
 ·obtain ⟨b1, b2, b3⟩ := N1 b hb
  exact⟨fun h=>b2 h.1,.inl ⟨b1.imp (fun h=>(Y.sepn b h).2.1) id,.inl b3⟩,by omega⟩
 ·rcases hv2 b hb with hb' | hb'
  ·exact(Y.hv b hb').1 (L1 _ hh.1)
  ·have h2 := R2.sl.lt b hb
   rcases hh.2 with h|h<;>omega
 ·rcases (N1 b hb).1 with h | h
  ·exact(Y.sepr b h).1
  ·omega
 ·rcases hv2 b hh with hb' | hb'
  ·rcases (N1 b hb).1 with h | h
   ·exact(Y.sepr b h).2 hb'
   ·have := hlt b hb'
    omega
  ·have := (N1 b hb).2.2
   omega
 ·rcases hb with ⟨hb | hb, _⟩ | hb
  ·exact hb
  ·omega
  ·rcases hv2 b hb with hb' | hb'
   ·exact(Y.hv b hb').2
   ·omega
theorem Dd.app(Y:Dd N lo lo2 H db rb s B)(hn:1000000<n){u:Bytes}(hB:B+u.length<300000):
  ∃lo' lo2' H1 H2 S1,wL n (D+7) (d+1) false 23 [.ptr db 0,.int .i64 0,zc u] H=some (.ret (.int .i64 (z17c s 0 ⟨0,u,0⟩)),H1)∧Tch S1 H H1∧(∀b∈S1,lo2 b)∧
   wL n (D+7) (d+1) false 24 [.ptr rb 0,.int .i64 0,.agg (z1f1 ⟨0,u,0⟩)] H1=some (.ret (.int .i64 (z17c s 0 ⟨0,u,0⟩)),H2)∧Tch [rb] H1 H2∧Dd N lo' lo2' H2 db rb (z10f s 0 ⟨0,u,0⟩) (B+u.length+2)∧∀b,lo2' b→lo2 b:=by
 obtain⟨nr,lr⟩:=Y.nr;obtain⟨H1,S1,e1,K1,t1,hS1⟩:=z1dd (n:=n) (d:=D+4) (u:=u) (z:=0) hn Y.K (by omega);have n1:=t1.1;have hS1':∀b∈S1,lo2 b:=fun b hb=>Y.sub b (hS1 b hb);have V1:RefAt lo2 H1 rb s:=Y.V.tch t1 (fun b hb=>.inl (hS1' b hb)) (fun _ h _=>h);obtain⟨D1,vs1,VD1⟩:=id V1;obtain⟨H2,e2,t2,V2⟩:=z38d (n:=n) (d:=D+3) (c:=⟨0,u,0⟩) hn VD1 Y.ok (by omega) K1.ex 0;have n2:=t2.1;have K2:=K1.part t2 (fun b hb=>.inl (by rw[List.mem_singleton.1 hb];exact fun h=>nr (Y.sub _ h)));have hNH:=Y.hN;exact⟨_,_,H1,H2,S1,(z22a 23).trans e1,t1,hS1',(z22a 24).trans e2,t2,⟨K2,V2,(Y.ok.act (.inl rfl)).mono (by show B+u.length+1≤_;omega),fun b hb=>⟨Y.sub b hb.1,hb.2⟩,fun b hb=>Y.hl b hb.1,Y.hr,by omega⟩,fun b hb=>hb.1⟩
end
theorem rowSame_r{H:AHeap}{b:Nat}{e:TypeId}{l:List AV}(k:RowH H b e l):z40f H b e l=true:=by
 obtain⟨t,h1,h2⟩:=k;unfold z40f;rw[h1];dsimp only;have:=z214 (t:=t) (l:=l) l.length 0 (fun i _ hi=>h2 i (by omega)) (by omega);rw[List.drop_zero,List.take_length] at this;rw[this];unfold z2cf
 simp[y1f]
theorem z449:∀(l:List Sp),∀x∈l,szS x≤z3f9 l
 |y::l,x,h=>by
  show szS x≤szS y+z3f9 l
  rcases List.mem_cons.1 h with rfl|h
  ·omega
  ·have := z449 l x h
   omega
section
variable {N n d D db rb B:Nat}{h0 H H':AHeap}{a:AV}{xs:List Sp}{Q:ARes→AHeap→Prop}
theorem ops_b{lo:Nat→Prop}{h:AHeap}{s:DS}(K:At lo h db s B):world n (d+1) 27 [.ptr db 0] h=some (.ret (.int .i64 (s.ops:Int)),h):=by
 obtain⟨D,vs,K⟩:=K;exact ops_w K
set_option maxHeartbeats 4000000 in
theorem z32f(hn:1000000000<n)(hs:Slc h0.next h0 9 a (xs.map spC))(ho:∀x∈xs,SpOk x)(hsz:∀x∈xs,szS x≤16384)(hl:xs.length≤100){k36:AHeap→R}(hk:∀H,Wp (k36 H) Q):
  ∀(todo:List Sp) (i fu:Nat) (H:AHeap) (lo lo2 nb:Nat→Prop) (s:DS) (L:List Snd) (br:Int) (jb yb:Nat) (lv:AV) (B:Nat),xs.drop i=todo→todo.length<fu→Du h0.next lo lo2 nb H db rb jb yb lv s L br B→B+z3f9 todo+210*todo.length≤100000→Tch [] h0 H→
   Wp (z67 (wL n (D+7) (d+6) false) a (.ptr db 0) (.ptr rb 0) (xs.length:Int) k36 fu (.ptr jb 0) 0 (.ptr yb 0) 0 (i:Int) H) Q
 |_,_,0,_,_,_,_,_,_,_,_,_,_,_,_,hf,_,_,_=>by omega
 |[],i,fu+1,H,lo,lo2,nb,s,L,br,jb,yb,lv,B,hd,hf,Y,hB,T=>by
  have:=dropN hd;rw[zb6];unfold z5c;exact Wp.lett (y8 (by rw[decide_eq_false_iff_not];omega) (hk H))
 |c::todo,i,fu+1,H,lo,lo2,nb,s,L,br,jb,yb,lv,B,hd,hf,Y,hB,T=>by
  obtain⟨hi,hci,hd2⟩:=dropC hd;rw[List.length_cons] at hf hB;have hss:z3f9 (c::todo)=szS c+z3f9 todo:=rfl;rw[hss] at hB;have hs2:=hs.tch T (Nat.le_refl _) (fun b hb=>nomatch hb);obtain⟨b,hb,e1,e2⟩:=hs2.row (i:=i) (by rw[List.length_map];exact hi);rw[List.getElem_map,hci] at e2;obtain⟨_,icn,hcx,_⟩:=ho c (hci▸List.getElem_mem hi);have hcs:=hsz c (hci▸List.getElem_mem hi);have hsc:szS c=min (c.s.length+c.x.s.length) 65536:=rfl;have hrb:reachBytes=140737488351232:=rfl;rw[zb6];unfold z5c;refine Wp.lett (yc (by rw[decide_eq_true_eq];omega) (y9 fun k46 e46=>Wp.obind e1 (Wp.obind e2 (y12 (Mem.nil [] H) fun h2 M2=>?_))));rw[z2d H];refine y1a M2 rfl rfl (sp_one c) fun h3 M3=>?_;have t3:=M3.tch;have k3:=M3.at0.1;have l3:=M3.at0.2.1;have Y3:=Y.alloc t3;have T3:=T.trans t3;have nb3:¬shr lo2 H.next h3.next H.next:=fun hh=>by rcases hh.2 with h|h<;>omega
  have hrH:rb<H.next:=Y.dd.nr.2;have hHr:H.next≠rb:=by omega
  have g0:(spC c)[0]? =some (.int .i64 c.k):=rfl;have g1:(spC c)[1]? =some (.int .i64 c.n):=rfl;have g2:(spC c)[2]? =some (.int .i64 c.x.k):=rfl;have g7:(spC c)[7]? =some (zc c.s):=rfl;have g8:(spC c)[8]? =some (.int .i64 c.p):=rfl;have gx:∀{h6:AHeap},RowH h6 H.next TSp (spC c)→z28 h6 5 (.ptr H.next 2)=some (z93 c.x):=fun k=>k.ld (o:=2) (n:=5) (show 2+5≤9 by decide);refine y1b M3 g0 (Wp.obind (z5 _ _) (Wp.lett (y9 fun k67 e67=>?_)))
  have K67:∀(lo5 lo25 nb5:Nat→Prop) (h5:AHeap) (jb5 yb5:Nat) (lv5:AV) (s5:DS) (L5:List Snd) (br5:Int) (B5:Nat),Du h0.next lo5 lo25 nb5 h5 db rb jb5 yb5 lv5 s5 L5 br5 B5→RowH h5 H.next TSp (spC c)→H.next<h5.next→B5+z3f9 todo+210*todo.length≤100000→Tch [] h0 h5→Wp (k67 (.ptr jb5 0) 0 (.ptr yb5 0) 0 h5) Q:=by
   intro lo5 lo25 nb5 h5 jb5 yb5 lv5 s5 L5 br5 B5 Y5 k5 l5 hB5 T5;obtain⟨D5,vs5,VD5⟩:=Y5.dd.V;have C:=VD5.cells 0 (by decide);have rl:=VD5.rl 0 (by decide);have hL5:=Y5.hL;have isf:isF (0:Int):=⟨by decide,by decide⟩;have eS:=sure_a (n:=n) (d:=D+5) (z:=0) Y5.dd.K;rw[if_pos isf,if_pos isf,show (0:Int).toNat=0 from rfl] at eS;have eL:=loose_a (n:=n) (d:=D+5) (z:=0) Y5.dd.K;rw[if_pos isf,show (0:Int).toNat=0 from rfl] at eL;have i0:z19c 32 3 (.ptr rb (0+0)) 0=some (.ptr rb (3*0)):=idxR (i:=0) (by decide);have hops:=ops_b (n:=n) (d:=D+6) Y5.dd.K;have g97:D5[0+97]? =some (.int .i64 (s5.ops:Int)):=VD5.co;rw[e67];refine Wp.callN ((z22a 26).trans eS) (Wp.obind (z64 _ _) (Wp.obind (z12 _) (Wp.obind (z63 _ _ _) (Wp.obind (z13 _) (y9 fun k82 e82=>Wp.lett (y8 rfl (Wp.outK (z3e9 jb5 h5) (Wp.obind (z13 _) (Wp.outK (eqRJ yb5 h5) (Wp.obind (z13 _) (Wp.lett (y8 rfl (Wp.obind (z10 _ _) (Wp.obind (z7 _ _ _) (Wp.obind (y5 VD5.row g97) (Wp.obind (z5 _ _) (Wp.callN ((z22a 27).trans hops) (Wp.obind (z5 _ _) (Wp.chk (ze2 (z84 (by kernel_rfl) (y5 VD5.row g97)) rfl) (Wp.lett ?_))))))))))))))))))));rw[show ((s5.ops:Int) != (s5.ops:Int))=false from z9b rfl];refine y8 rfl (Wp.obind (z10 _ _) (Wp.obind (z7 _ _ _) (Wp.obind i0 (Wp.obind (z7 _ _ _) (Wp.obind (z7 _ _ _) (Wp.obind (y5 VD5.row C.c1) (Wp.obind (z12 _) (Wp.lett ?_))))))));rw[z386.2 (rfl:(s5.fs 0).sure.u=(s5.fs 0).sure.u)];refine y8 rfl (Wp.obind (z10 _ _) (Wp.obind (z7 _ _ _) (Wp.obind i0 (Wp.obind (z7 _ _ _) (Wp.obind (z7 _ _ _) (Wp.obind (y5 VD5.row C.c0) (Wp.obind (z13 _) (Wp.lett ?_))))))));rw[show (!((s5.fs 0).sure.th == (s5.fs 0).sure.th))=false by cases(s5.fs 0).sure.th<;>rfl];refine y8 rfl (Wp.obind (z10 _ _) (Wp.obind (z7 _ _ _) (Wp.obind i0 (Wp.obind (z7 _ _ _) (Wp.obind (y5 VD5.row C.c2) (Wp.obind rl.len (Wp.callN ((z22a 28).trans eL) (Wp.obind (z5 _ _) (Wp.chk (ze2 (z84 (by kernel_rfl) (y5 VD5.row C.c2)) rfl) (Wp.lett ?_))))))))));rw[show (((s5.fs 0).loose.length:Int) != ((s5.fs 0).loose.length:Int))=false from z9b rfl,e82];refine y8 rfl (Wp.outK (z3e9 jb5 h5) (Wp.obind (z13 _) (y8 rfl ?_)));obtain⟨h6,v6,e6,ks6,hv6,t6⟩:=list_w (n:=n) (D:=D+6) (d:=d+3) Y5.J (fun b hb=>(Y5.sepn b hb).2.2) Y5.dd.K.ex (by omega) (by omega);have n6:=t6.1;have k6:=k5.tch t6 l5 (fun h=>nomatch h);have Y6:=Y5.alloc t6;obtain⟨h7,e7,t7⟩:=jnext_w (n:=n) (d:=D+6) Y6.J (z172 Y6.ok c.x.k);have n7:=t7.1;have k7:=k6.tch t7 (by omega) (fun h=>nomatch h);refine Wp.callN e6 (Wp.obind (z64 _ _) (Wp.obind (z63 _ _ _) (Wp.obind (z13 _) (Wp.obind (y5 k6 g2) (Wp.obind (z5 _ _) (Wp.callN ((z22a 10).trans e7) (Wp.obind (z64 _ _) (Wp.obind (z2b _) (Wp.obind (z63 _ _ _) (Wp.obind (z5 _ _) (y12 (Mem.nil [] h7) fun h8 M8=>?_)))))))))));rw[z2d h7];refine y1a M8 rfl rfl rfl fun h9 M9=>?_;have t9:=M9.tch;have n9:=t9.1;have T79:=t7.trans t9;have Y9:=Y6.alloc T79;have k9:=k7.tch t9 (by omega) (fun h=>nomatch h);have kf9:=M9.at0.1;have lf9:=M9.at0.2.1;have gl:[AV.ptr rb 0,lv5,.int .i64 br5][0+1]? =some lv5:=rfl;refine Wp.obind (z10 _ _) (Wp.obind (z7 _ _ _) (Wp.obind (y5 Y9.R.row gl) (Wp.obind (y5 k9 g2) (Wp.obind (z5 _ _) (y12 (Mem.nil [] h9) fun h10 M10=>?_)))));have t10:=M10.tch;have n10:=t10.1;have Y10:=Y9.alloc t10;have kg10:=M10.at0.1;have lg10:=M10.at0.2.1;obtain⟨h11,e11,t11⟩:=rnext_w (n:=n) (d:=D+6) Y10.R.sl (by omega) (by omega) Y10.ok c.x.k;have n11:=t11.1;have Y11:=Y10.alloc t11;have kg11:=kg10.tch t11 lg10 (fun h=>nomatch h);have kf11:=(kf9.tch t10 lf9 (fun h=>nomatch h)).tch t11 (by omega) (fun h=>nomatch h);rw[z2d h9];refine Wp.callN ((z22a 29).trans e11) (Wp.chk (ze2 (rowSame_r kg11) rfl) (Wp.obind (z64 _ _) (Wp.obind (z2b _) (Wp.obind (z63 _ _ _) (Wp.obind (z5 _ _) (Wp.stAll kg11 rfl rfl rfl fun h12 kg12 t12 n12=>Wp.lett (y9 fun j202 e202=>y8 rfl ?_)))))));have Tn:Tch [] h11 h12→True:=fun _=>trivial;have t59:Tch [] h5 h9:=(t6.trans t7).trans t9;have t511:Tch [] h5 h11:=(t59.trans t10).trans t11;have t512:Tch [] h5 h12:=t511.trans' t12 fun b hb=>.inr (by rw[List.mem_singleton.1 hb];omega);have Y12:=Y5.alloc t512
   have ks12:=(ks6.tch ((T79.trans t10).trans t11) (fun _ _ h=>nomatch h)).tch t12 (fun b hb h=>by
    have h1:=ks6.lt b hb;have h2:=List.mem_singleton.1 h;omega)
   have kf12:=kf11.tch t12 (by omega) (fun h=>by have:=List.mem_singleton.1 h;omega);refine Wp.obind (z10 _ _) (Wp.obind (z7 _ _ _) (Wp.obind (y5 Y12.R.row gl) (Wp.callN (same_r (n:=n) (D:=D+7) (d:=d+5) ks12.rds Y12.R.sl.rds (by omega) (by omega)) (Wp.obind (z13 _) (Wp.lett ?_)))));rw[e202];refine y9 fun j207 e207=>y8 rfl (Wp.obind (kf12.ldAll rfl) (Wp.obind (kg12.ldAll rfl) (Wp.obind (eqFen _ _ _ _) (Wp.lett ?_))));rw[decide_eq_true (⟨rfl,rfl⟩:(z5a L5 c.x.k).t=(z5a L5 c.x.k).t∧(z5a L5 c.x.k).e=(z5a L5 c.x.k).e),e207];refine y9 fun j212 e212=>y8 rfl (Wp.lett ?_);rw[show (((z5a L5 c.x.k).q+1:Int) != (z5a L5 c.x.k).q+1)=false from z9b rfl,e212];refine y8 rfl ?_;rw[e46];refine yd (by omega) (by omega) ?_;rw[show (i:Int)+1=((i+1:Nat):Int) by omega];exact z32f hn hs ho hsz hl hk todo (i+1) fu h12 _ _ _ s5 L5 br5 jb5 yb5 lv5 B5 hd2 (by omega) Y12 hB5 (T5.trans t512)
  by_cases hk0:c.k=0
  ·obtain ⟨lo', lo2', nb', H1, H2, S1, S2, lv', e, s', L', br', w1, t1, hS1, w2, t2, hS2, Y2, _⟩ := Y3.add (n := n) (D := D) (d := d + 5) (by omega) (by omega) c.x (by omega)
   have n1:=t1.1;have n2:=t2.1;have k1:=k3.tch t1 l3 (fun h=>nb3 (hS1 _ h));have k2:=k1.tch t2 (by omega) (fun h=>(hS2 _ h).elim hHr nb3);have T2:=(T3.trans' t1 fun b hb=>.inr (Y3.dd.hl b (hS1 b hb))).trans' t2 fun b hb=>.inr ((hS2 b hb).elim (fun h=>h▸Y3.dd.hr) (Y3.dd.hl b));refine yc (zf7 hk0) (y9 fun k196 e196=>Wp.outK (neqJou jb h3) (Wp.obind (z13 _) (yc rfl (Wp.obind (gx k3) (Wp.obind (gx k3) (Wp.callN w1 (Wp.obind (z5 _ _) (Wp.chk (ze2 (z36c (by kernel_rfl) (by kernel_rfl) (gx k1)) rfl) (Wp.callN w2 (Wp.obind (z5 _ _) (Wp.lett ?_)))))))))));rw[show ((e:Int) != e)=false from z9b rfl,e196];exact y8 rfl (K67 _ _ _ H2 jb yb lv' s' L' br' (B+200) Y2 k2 (by omega) (by omega) T2)
  refine y8 (zc8 hk0) (Wp.lett (y9 fun k214 e214=>?_))
  by_cases hk1:c.k=1
  ·obtain ⟨D5, vs5, VD5⟩ := Y3.dd.V
   have hl5:=VD5.len;obtain⟨nr3,_⟩:=Y3.dd.nr;refine yc (zf7 hk1) (Wp.obind (y5 k3 g1) (Wp.obind (z5 _ _) (Wp.lett (Wp.obind (z10 _ _) (Wp.obind (z7 _ _ _) (Wp.st1 VD5.row (show 0+96<D5.length by omega) rfl fun h4 k4 t4 n4=>?_))))));have V4:RefAt (shr lo2 H.next h3.next) h4 rb ⟨s.fs,if -1>c.n then -1 else c.n,s.ops⟩:=⟨_,_,VD5.po (lo':=shr lo2 H.next h3.next) (p':=if -1>c.n then -1 else c.n) (o':=s.ops) t4 (fun _ h _=>h) k4 (by rw[List.length_set];exact hl5) (fun i hi=>by rw[List.getElem?_set_ne (by omega)]) (by rw[Nat.zero_add,List.getElem?_set_self (by omega)]) (by rw[List.getElem?_set_ne (by omega)];exact VD5.co)⟩;have K4:=Y3.dd.K.tch t4 (fun b hb=>.inl (by rw[List.mem_singleton.1 hb];exact fun h=>nr3 (Y3.dd.sub _ h)));have b4:=k3.tch t4 l3 (fun h=>hHr (List.mem_singleton.1 h));obtain⟨h5,S5,e5,K5,t5,hS5⟩:=power_ok (n:=n) (d:=D+6) (m:=c.n) icn.2 K4;have J5:=(Y3.J.tch t4 (fun b hb h=>nr3 (List.mem_singleton.1 hb▸(Y3.sepn b h).2.1))).tch t5 (fun b hb h=>(Y3.sepn b h).1 (hS5 b hb));have R5:=(Y3.R.tch t4 (fun h=>nr3 (List.mem_singleton.1 h▸Y3.hy2)) (fun b hb h=>nr3 (List.mem_singleton.1 h▸(Y3.hv b hb).2))).tch t5 (fun h=>Y3.hy1 (hS5 _ h)) (fun b hb h=>(Y3.hv b hb).1 (hS5 b h));have V5:=V4.tch t5 (lo':=shr lo2 H.next h3.next) (fun b hb=>.inl (Y3.dd.sub b (hS5 b hb))) (fun _ h _=>h)
   have hp5: -1≤(if -1>c.n then (-1:Int) else c.n)∧(if -1>c.n then (-1:Int) else c.n)<9223372036854775808:=by
    have:=icn.2
    split<;>omega
   have n5:=t5.1;have hN3:=Y3.dd.hN;have Y5:Du h0.next (shr lo H.next h3.next) (shr lo2 H.next h3.next) nb h5 db rb jb yb lv ⟨s.fs,if -1>c.n then -1 else c.n,s.ops⟩ L br B:=⟨⟨K5,V5,⟨Y3.dd.ok.ok,Y3.dd.ok.lt,hp5,Y3.dd.ok.ho⟩,Y3.dd.sub,Y3.dd.hl,Y3.dd.hr,by omega⟩,J5,R5,fun b hb=>⟨(Y3.sepn b hb).1,(Y3.sepn b hb).2.1,by have:=(Y3.sepn b hb).2.2;omega⟩,Y3.hy1,Y3.hy2,Y3.hv,Y3.sepr,Y3.ok,Y3.hL⟩;have b5:=b4.tch t5 (by omega) (fun h=>nb3 (Y3.dd.sub _ (hS5 _ h)));refine Wp.obind (y5 b4 g1) (Wp.obind (z5 _ _) (Wp.callN ((z22a 22).trans e5) (Wp.obind (z5 _ _) ?_)));rw[e214];exact K67 _ _ _ h5 jb yb lv _ L br B Y5 b5 (by omega) (by omega) ((T3.trans' t4 fun b hb=>.inr (by rw[List.mem_singleton.1 hb];exact Y3.dd.hr)).trans' t5 fun b hb=>.inr (Y3.dd.hl b (Y3.dd.sub b (hS5 b hb))))
  refine y8 (zc8 hk1) (Wp.obind (y5 k3 g8) (Wp.obind (z5 _ _) (y23 (Mem.nil [] h3) (bldI1 _ _) rfl (by rw[Y3.dd.K.ex];rfl) fun h4 M4=>?_)));have t4:=M4.tch;have n4:=t4.1;have ki4:=M4.at0.1;have li4:=M4.at0.2.1;have Y4:=Y3.dd.alloc t4;have T4:=T3.trans t4;have k4:=k3.tch t4 l3 (fun h=>nomatch h);have nb4:¬shr (shr lo2 H.next h3.next) h3.next h4.next H.next:=fun h=>nb3 h.1;refine Wp.obind (y5 k4 g0) (Wp.obind (z5 _ _) (Wp.lett (y9 fun k243 e243=>?_)))
  have K243:∀(h6:AHeap) (lo6 lo26:Nat→Prop) (s6:DS) (B6 c6:Nat) (z:Int),Dd h0.next lo6 lo26 h6 db rb s6 B6→RowH h6 H.next TSp (spC c)→H.next<h6.next→¬lo26 H.next→RowH h6 c6 3 [.int .i64 z]→c6<h6.next→¬lo26 c6→c6≠rb→B6+6+z3f9 todo+210*todo.length≤100000→Tch [] h0 h6→Wp (k243 (.sl c6 0 1 1) h6) Q:=by
   intro h6 lo6 lo26 s6 B6 c6 z Y6 k6 l6 nb6 ki6 li6 ni6 nir hB6 T6;obtain⟨nr6,_⟩:=Y6.nr;obtain⟨h7,h8,S8,e7,t7,e8,t8,hS8,Y8⟩:=Y6.crash (n:=n) (D:=D+1) (d:=d+5) (by omega) (by omega) (torn:=c.n) icn.2 (zs:=[z]) (show (1:Nat)<9223372036854775808 by decide) (row_rdi ki6 li6 fun h=>h.elim ni6 nir);have n7:=t7.1;have n8:=t8.1;have k7:=k6.tch t7 l6 (fun h=>hHr (List.mem_singleton.1 h));have k8:=k7.tch t8 (by omega) (fun h=>nb6 (Y6.sub _ (hS8 _ h)));obtain⟨lo9,lo29,nb9,h9,h10,S9,jb9,yb9,lv9,e9,t9,hS9,e10,t10,Y10,_⟩:=Y8.open (n:=n) (D:=D) (d:=d) rfl hn (by omega);have n9:=t9.1;have n10:=t10.1;have k9:=k8.tch t9 (by omega) (fun h=>nb6 (Y6.sub _ (hS9 _ h)));have k10:=k9.tch t10 (by omega) (fun h=>hHr (List.mem_singleton.1 h));have T7:=T6.trans' t7 fun b hb=>.inr (by rw[List.mem_singleton.1 hb];exact Y6.hr);have T8:=T7.trans' t8 fun b hb=>.inr (Y6.hl b (Y6.sub b (hS8 b hb)));have T9:=T8.trans' t9 fun b hb=>.inr (Y6.hl b (Y6.sub b (hS9 b hb)));have T10:=T9.trans' t10 fun b hb=>.inr (by rw[List.mem_singleton.1 hb];exact Y6.hr);rw[e243];refine Wp.obind (y5 k6 g1) (Wp.obind (z5 _ _) (Wp.callN e7 (Wp.obind (y5 k7 g1) (Wp.obind (z5 _ _) (Wp.callN e8 (Wp.obind (z5 _ _) (Wp.callN e9 (Wp.obind (z64 _ _) (Wp.obind (z63 _ _ _) (Wp.obind (z5 _ _) (Wp.callN e10 (Wp.obind (z64 _ _) (Wp.obind (z63 _ _ _) (Wp.obind (z5 _ _) ?_))))))))))))));rw[e214];exact K67 _ _ _ h10 jb9 yb9 lv9 _ _ _ (B6+6) Y10 k10 (by omega) (by omega) T10
  by_cases hk3:c.k=3
  ·obtain ⟨lo', lo2', H1, H2, S1, w1, t1, hS1, w2, t2, Y2, L2⟩ := Y4.app (n := n) (D := D) (d := d + 5) (u := c.s) (by omega) (by omega)
   have n1:=t1.1;have n2:=t2.1;have k1:=k4.tch t1 (by omega) (fun h=>nb4 (hS1 _ h));have k2:=k1.tch t2 (by omega) (fun h=>hHr (List.mem_singleton.1 h));have T2:=(T4.trans' t1 fun b hb=>.inr (Y4.hl b (hS1 b hb))).trans' t2 fun b hb=>.inr (by rw[List.mem_singleton.1 hb];exact Y4.hr);refine yc (zf7 hk3) (Wp.obind (y5 k4 g7) (Wp.obind (z12 _) (Wp.obind (y5 k4 g7) (Wp.obind (z12 _) (Wp.callN w1 (Wp.obind (z5 _ _) (Wp.chk (ze2 (z84 (by kernel_rfl) (y5 k1 g7)) rfl) (Wp.callN w2 (Wp.obind (z5 _ _) (Wp.lett ?_))))))))));rw[show (z17c s 0 ⟨0,c.s,0⟩ != z17c s 0 ⟨0,c.s,0⟩)=false from z9b rfl];refine y8 rfl (y23 (Mem.nil [] H2) (bldI1 _ _) rfl (by rw[Y2.K.ex];rfl) fun h6 M6=>?_);have t6:=M6.tch;have n6:=t6.1;have l6:=M6.at0.2.1;have Y6:=Y2.alloc t6;have hr2:rb<H2.next:=Y2.nr.2;exact K243 h6 _ _ _ _ H2.next 99 Y6 (k2.tch t6 (by omega) (fun h=>nomatch h)) (by omega) (fun h=>nb4 (L2 _ h.1)) M6.at0.1 l6 (fun h=>by rcases h.2 with h|h<;>omega) (by omega) (by omega) (T2.trans t6)
  ·exact y8 (zc8 hk3) (K243 h4 _ _ s B h3.next c.p Y4 k4 (by omega) nb4 ki4 li4 (fun h=>by rcases h.2 with h|h<;>omega) (by omega) (by omega) T4)
end
set_option maxRecDepth 100000 in
set_option maxHeartbeats 1000000 in
theorem z289(h:AHeap)(hX:h.ex=[])(xs:List AV)(hP:z444 Try.prog h.next h 12 [45] xs):∃h',Says Try.prog 5 xs h (.ret (.bool true)) h':=by
 obtain⟨a,_,rfl,hp0,hP⟩:=args_cons hP
 obtain rfl:=args0 hP
 obtain⟨l,hs,ho,hll⟩:=sps_of hp0;have hrb:reachBytes=140737488351232:=rfl;obtain⟨n,hn⟩:∃n,140737488351232<n:=⟨140737488351233,Nat.lt_succ_self _⟩
 suffices hK:Wp (zca (wL n (0+7) (1+6) false) n a h) fun r _=>r=.ret (.bool true) by
  obtain⟨_,h',e,rfl⟩:=hK;exact⟨h',z1d3 (wL_ok n (0+7) (1+6)).says e⟩
 unfold zca;obtain⟨h2,e2,T2⟩:=works_w (n:=n) (D:=1) (d:=0) hX (by omega);have hs2:=hs.tch T2 (Nat.le_refl _) (fun b hb=>nomatch hb);obtain⟨h3,hv,e3,t3,hhv⟩:=heavy_w (n:=n) (D:=0+7) (d:=6) hs2 T2.1 ho hll (by omega);refine Wp.callN e2 (Wp.obind (z13 _) (Wp.lett (y8 rfl (Wp.callN e3 (Wp.obind (z13 _) ?_)))));cases hv with
 |true=>exact yc rfl (Wp.ret rfl)
 |false=>
 obtain⟨hsum,hlen⟩:=hhv rfl;have T3:=T2.trans t3;refine y8 rfl ?_;obtain⟨h4,e4,K4,t4⟩:=new_ok (n:=n) (d:=6) (h:=h3) (by rw[T3.2.1,hX]);have n4:=t4.1;obtain⟨h5,e5,t5,V5,l5⟩:=newR_ok (n:=n) (d:=6) (lo:=fun b=>h3.next≤b∧b≠h4.next) (h:=h4) (fun hh=>hh.2 rfl);have n5:=t5.1;have K5:=K4.part t5 (fun _ h=>nomatch h);have n3:=T3.1;have Y5:Dd h.next (shr (fun b=>h3.next≤b) h4.next h5.next) (shr (fun b=>h3.next≤b) h4.next h5.next) h5 h3.next h4.next newS 0:=⟨K5,V5.less fun b hb hlt=>⟨hb.1,by rcases hb.2 with h|h<;>omega⟩,⟨fun f hf=>⟨rfl,trivial,Nat.le_refl _,Nat.le_refl _⟩,fun _ _=>trivial,⟨by decide,by decide⟩,Nat.le_refl _⟩,fun _ h=>h,fun b hb=>Nat.le_trans n3 hb.1,by omega,by omega⟩;obtain⟨lo6,lo26,nb6,h6,h7,S6,jb,yb,lv,e6,t6,hS6,e7,t7,Y7,_⟩:=Y5.open (n:=n) (D:=0) (d:=1) rfl (by omega) (by omega);have T5:=(T3.trans t4).trans t5;have T7:=(T5.trans' t6 fun b hb=>.inr (Nat.le_trans n3 (hS6 b hb).1)).trans' t7 fun b hb=>.inr (by rw[List.mem_singleton.1 hb];omega);have hlenL:=hs.len;rw[List.length_map] at hlenL;refine Wp.callN ((z22a 8).trans e4) (Wp.callN ((z22a 19).trans e5) (Wp.callN e6 (Wp.obind (z64 _ _) (Wp.obind (z63 _ _ _) (Wp.obind (z5 _ _) (Wp.callN e7 (Wp.obind (z64 _ _) (Wp.obind (z63 _ _ _) (Wp.obind (z5 _ _) (Wp.obind hlenL (y9 fun k36 e36=>z32f (D:=0) (d:=1) (h0:=h) (by omega) hs ho (fun x hx=>Nat.le_trans (z449 l x hx) hsum) hlen (fun H=>?_) l 0 n h7 _ _ _ _ _ _ jb yb lv (0+6) rfl (by omega) Y7 (by omega) T7)))))))))));rw[e36];exact Wp.ret rfl
end Go.Proofs.Ytbhblbffdmiepaa
