/- What votePlays_proved stands on, part 7 of 10. -/
import Derived.Test.YteecmjmglmpbpaaKP6
namespace Go.Proofs.Yteecmjmglmpbpaa.Abs
noncomputable section
open Go.RowKit
def orF(a b:z11):z11:=fun f args h=>match a f args h with
 |some r=>some r
 |none=>b f args h
theorem orF_ok{P:Program}{a b:z11}(ha:SaysAll P a)(hb:SaysAll P b):SaysAll P (orF a b):=by
 intro f args h r h' e;unfold orF at e
 split at e
 ·rename_i r' e2
  cases e
  exact ha _ _ _ _ _ e2
 ·exact hb _ _ _ _ _ e
theorem orF_l{a b:z11}{f:FuncId}{args:List AV}{h:AHeap}{x:ARes×AHeap}(e:a f args h=some x):orF a b f args h=some x:=by
 unfold orF;rw[e]
theorem orF_r{a b:z11}{f:FuncId}{args:List AV}{h:AHeap}(e:a f args h=none):orF a b f args h=b f args h:=by
 unfold orF;rw[e]
theorem z2d9{f:FuncId}:∀(l:List (FuncId×FnT)) (args:List AV) (h:AHeap),(l.all fun p=> !Nat.beq p.1 f)=true→z177 l f args h=none
 |[],_,_,_=>rfl
 |(g,s)::l,args,h,e=>by
  rw[List.all_cons,Bool.and_eq_true] at e;unfold z177;have e1:Nat.beq g f=false:=by simpa using e.1
  rw[e1];exact z2d9 l args h e.2
def y2c:Code→Nat
 | .region id _ _=>id+1
 | .seq a b=>y2c a*3+y2c b
 | .cond _ a b=>y2c a*5+y2c b
 | .block _ a=>y2c a
 | .loop a=>y2c a
 |_=>0
structure LSite where
 N:Nat
 c:Code
 sa:List Nat
 fa:z46→FnT
 ts:List Nat
 fb:z46→FnT
open Classical in
def z2f5(sites:List LSite)(q:ALoop):Option LSite:=sites.find? fun s=>Nat.beq s.N q.N&&(Nat.beq (y2c (y1d s.c)) (y2c q.body)&&decide (y20 s.c=q.assign∧y1d s.c=q.body))
theorem z316{sites:List LSite}{q:ALoop}{s:LSite}(h:z2f5 sites q=some s):s∈sites∧s.N=q.N∧y20 s.c=q.assign∧y1d s.c=q.body:=by
 have h1:=List.mem_of_find?_eq_some h;have h2:=List.find?_some h;simp only[Bool.and_eq_true,decide_eq_true_eq] at h2;exact⟨h1,Nat.eq_of_beq_eq_true h2.1,h2.2.2.1,h2.2.2.2⟩
open Classical in
theorem z4b1{s:LSite}{l:List LSite}{q:ALoop}(h1:s.N=q.N)(h2:y20 s.c=q.assign)(h3:y1d s.c=q.body):z2f5 (s::l) q=some s:=by
 unfold z2f5;rw[List.find?_cons_of_pos];rw[h1,h2,h3,Nat.beq_refl,Nat.beq_refl];exact decide_eq_true ⟨rfl,rfl⟩
def z19f(t:T AV):List Nat→Option (List AV)
 |[]=>some []
 |i::l=>match t.get i,z19f t l with
  |some v,some vs=>some (v::vs)
  |_,_=>none
theorem z254{t:T AV}:∀{l:List Nat} {vs:List AV},z19f t l=some vs→∀i v,Fr.get (l.zip vs) i=some v→t.get i=some v
 |[],vs,h,i,v,e=>by
  cases h
  cases e
 |j::l,vs,h,i,v,e=>by
  unfold z19f at h
  split at h
  ·rename_i w ws e1 e2
   cases h;rw[List.zip_cons_cons] at e;unfold Fr.get at e
   split at e
   ·rename_i hb
    have:=Nat.eq_of_beq_eq_true hb;subst this
    cases e
    exact e1
   ·exact z254 e2 i v e
  ·cases h
def LSite.A(s:LSite)(both:z46):AAct→AHeap→z8b:=fun a h=>match z19f a.tmps s.sa with
 |some vs=>decA s.ts a.defers (s.fa both vs h)
 |none=>none
def LSite.B(s:LSite)(both:z46):AAct→AHeap→z8b:=fun a h=>match z19f a.tmps s.ts with
 |some vs=>decB a.defers (s.fb both vs h)
 |none=>none
structure LSite.ok (P:Program) (s:LSite):Prop where
 A:∀{both:z46},BothAll P both→∀{vs:List AV} {h:AHeap} {r:ARes} {h':AHeap},s.fa both vs h=some (r,h')→∀(w0:Base) (m0:Map) (rd:Option Nat) (n:Nat) (ds:DefT),WR P w0 m0 s.N rd n (y20 s.c) (z478 w0 m0 s.N .normal ⟨Fr.tree (tupFr s.ts r),ds⟩ h') (s.sa.zip vs) ds h
 B:∀{both:z46},BothAll P both→∀{vs:List AV} {h:AHeap} {r:ARes} {h':AHeap},s.fb both vs h=some (r,h')→∀(w0:Base) (m0:Map) (rd:Option Nat) (n:Nat) (ds:DefT),WR P w0 m0 s.N rd n (y1d s.c) (z478 w0 m0 s.N (decE r) ⟨Fr.tree [],ds⟩ h') (s.ts.zip vs) ds h
theorem LSite.okA{P:Program}{s:LSite}(hs:s.ok P){both:z46}(hc:BothAll P both)(w0:Base)(rb:Option Nat):z1fa P w0 s.N rb (s.A both) (y20 s.c):=by
 refine z329 (fun t ds h e a' h' hr=>?_) rb;unfold LSite.A at hr
 split at hr
 ·rename_i vs hv
  obtain⟨r,e1,rfl,rfl⟩:=decA_some hr;exact⟨s.sa.zip vs,z254 hv,fun rd n m0=>hs.A hc e1 w0 m0 rd n ds⟩
 ·cases hr
theorem LSite.okB{P:Program}{s:LSite}(hs:s.ok P){both:z46}(hc:BothAll P both)(w0:Base)(rb:Option Nat):z1fa P w0 s.N rb (s.B both) (y1d s.c):=by
 refine z329 (fun t ds h e a' h' hr=>?_) rb;unfold LSite.B at hr
 split at hr
 ·rename_i vs hv
  obtain⟨r,e1,rfl,rfl⟩:=decB_some hr;exact⟨s.ts.zip vs,z254 hv,fun rd n m0=>hs.B hc e1 w0 m0 rd n ds⟩
 ·cases hr
def z41b(fa fb:ALoop→AAct→AHeap→z8b)(b:Nat)(args:List AV)(h:AHeap):Option (ARes×AHeap):=match h.get b with
 |some (.obj (.loop r))=>match z346 r.N r.ps.toList args r.tmps with
  |some t=>z350 (fb r) b (fa r ⟨t,[]⟩ h)
  |none=>none
 |_=>none
theorem z490{P:Program}{w0:Base}{fa fb:ALoop→AAct→AHeap→z8b}(ha:∀(q:ALoop) (b:Nat),z1fa P w0 q.N (some b) (fa q) q.assign)(hb:∀(q:ALoop) (b:Nat),z1fa P w0 q.N (some b) (fb q) q.body):z2e2 P w0 (z41b fa fb):=by
 intro b args h r h' hr m w args' g r' hra F hmb hl hlen rd n;unfold z41b at hr
 split at hr
 ·rename_i rr hb0
  split at hr
  ·rename_i t ht
   obtain⟨_,_,_,r2,k1,k2,k3,k4,k5,k6,k7,k8,k9⟩:=F.obj _ _ _ _ _ hb0 hmb;rw[hl] at k1
   cases k1
   have hfr:=putPs_ok rr.ps.toList args args' rr.tmps t r'.tmps ht hra k4 k5
   have hz:(r'.params.zip ⟨args'⟩).foldl (fun tmps (x:Tmp×Value)=>tmps.setIfInBounds x.1 x.2) r'.tmps=(rr.ps.toList.zip args').foldl (fun tmps (p:Tmp×Value)=>tmps.setIfInBounds p.1 p.2) r'.tmps:=by
    rw[k6, ←Array.foldl_toList,Array.toList_zip]
   rw[←hz] at hfr;refine roundIn_of_wpIn trivial ?_;have hrel:RelAct m rr.N ⟨t,[]⟩ {tmps:=(r'.params.zip ⟨args'⟩).foldl (fun tmps (x:Tmp×Value)=>tmps.setIfInBounds x.1 x.2) r'.tmps,defers:=[]}:=⟨hfr.1,fun i v hv=>hfr.2 i v hv,.nil⟩;unfold z350 at hr
   split at hr
   ·rename_i a1 h1 hcode
    have h1w:=ha rr b _ _ _ _ _ hcode (some g) n m _ w hmb hrel F;rw[k7];refine wpIn_mono h1w ?_
    rintro e1 act1 w1 ⟨m1,hx1,ha1,F1,hex⟩
    cases hex
    split at hr
    ·rename_i r1 hb1
     split at hr
     ·rename_i hst
      have hmb1:=hx1.le _ _ hmb;obtain⟨r1',q1,q2,q3,q4,F2⟩:=F1.reLoop hb1 hmb1 .busy r1.pend;rw[←q3] at F2;refine⟨_,run_beginRound q1 (by rw[q2];exact hst),?_⟩;unfold z363 at hr
      split at hr
      ·rename_i e3 a3 h3 hbody
       split at hr
       ·rename_i j hj
        split at hr
        ·rename_i r3 hb3
         simp only[Option.some.injEq,Prod.mk.injEq] at hr;obtain⟨rfl,rfl⟩:=hr;have h2w:=hb rr b _ _ _ _ _ hbody (some g) n m1 _ _ hmb1 ha1 F2;rw[k8];refine wpIn_mono h2w ?_
         rintro e4 act4 w4 ⟨m4,hx4,ha4,F4,hex⟩
         have hmb4:=hx4.le _ _ hmb1;obtain⟨r3',p1,p2,p3,p4,F5⟩:=F4.reLoop hb3 hmb4 (if j.isNone then .ready else .done) j;have hx:=hx1.trans hx4;cases hex with
         |normal=>
          simp only[z317,Option.some.injEq] at hj;subst hj;exact⟨_,_,run_endRound none p1,m4,hx,F5,_,rfl,.bool _⟩
         |ret=>
          simp only[z317,Option.some.injEq] at hj;subst hj;exact⟨_,_,run_endRound (some .ret) p1,m4,hx,F5,_,rfl,.bool _⟩
         |exit id=>
          simp only[z317,Option.some.injEq] at hj;subst hj;exact⟨_,_,run_endRound (some (.exit id)) p1,m4,hx,F5,_,rfl,.bool _⟩
         |goto l=>cases hj
         |panic hv=>cases hj
        ·cases hr
       ·cases hr
      ·cases hr
     ·cases hr
    ·cases hr
   ·cases hr
  ·cases hr
 ·cases hr
def z307(sites:List LSite)(both:z46):Nat→List AV→AHeap→Option (ARes×AHeap):=z41b
 (fun q => match z2f5 sites q with
  |some s=>s.A both
  |none=>fun _ _=>none)
 (fun q => match z2f5 sites q with
  |some s=>s.B both
  |none=>fun _ _=>none)
theorem z491{P:Program}{sites:List LSite}(hs:∀s∈sites,s.ok P){both:z46}(hc:BothAll P both)(w0:Base):z2e2 P w0 (z307 sites both):=by
 refine z490 (fun q b=>?_) (fun q b=>?_)
 ·cases hf : z2f5 sites q with
  |none=>exact fun _ _ _ _ _ e=>nomatch e
  |some s=>
   obtain⟨h1,h2,h3,_⟩:=z316 hf;rw[←h2, ←h3];exact LSite.okA (hs s h1) hc w0 (some b)
 ·cases hf : z2f5 sites q with
  |none=>exact fun _ _ _ _ _ e=>nomatch e
  |some s=>
   obtain⟨h1,h2,_,h4⟩:=z316 hf;rw[←h2, ←h4];exact LSite.okB (hs s h1) hc w0 (some b)
def z301(sites:List LSite)(top:z46→List (FuncId×FnT))(base:z11):Nat→z46:=z412 (fun both=>orF (z177 (top both)) base) (z307 sites)
theorem z47a{P:Program}{sites:List LSite}(hs:∀s∈sites,s.ok P){top:z46→List (FuncId×FnT)}(ht:∀both,BothAll P both→SaysAll P (z177 (top both))){base:z11}(hb:SaysAll P base)(d:Nat):BothAll P (z301 sites top base d):=
 z29e (fun _ hc=>orF_ok (ht _ hc) hb) (fun _ hc w0=>z491 hs hc w0) d
section
variable {sites:List LSite}{top:z46→List (FuncId×FnT)}{base:z11}{d:Nat}{f:FuncId}{args:List AV}{h:AHeap}{x:ARes×AHeap}
theorem z16d(e:z177 (top (z301 sites top base d)) f args h=some x):z301 sites top base (d+1) false f args h=some x:=orF_l e
theorem z3cc(e:z177 (top (z301 sites top base d)) f args h=none):z301 sites top base (d+1) false f args h=base f args h:=orF_r e
end
def z23e(s:LoopState)(j:AJump)(N:Nat)(c:Code)(t:T AV)(D:Nat):AObj:=.obj (.loop ⟨s,j,t,N,y1b c,y20 c,y1d c,D⟩)
theorem rngH_rec(N:Nat)(c:Code)(t:T AV)(h:AHeap):(z475 N c t h).get (h.next+1)=some (z23e .ready .none N c t h.next):=z3a _
theorem z494(N:Nat)(c:Code)(t:T AV)(h:AHeap):(z475 N c t h).get h.next=some (.obj .dfr):=by
 refine(z25 _ ?_).trans (z3a _);show h.next+1≠h.next;omega
theorem z493(N:Nat)(c:Code)(t:T AV)(h:AHeap):(z475 N c t h).next=h.next+2:=rfl
theorem rngH_tch(S:List Nat)(N:Nat)(c:Code)(t:T AV)(h:AHeap):Tch S h (z475 N c t h):=(Tch.new S h _).trans (Tch.new S _ _)
def z1f4(z:Int):AJump:=match decE (.ret (.int .i64 z)) with
 | .ret=>.ret
 | .exit id=>.exit id
 |_=>.none
def stZ(j:AJump):LoopState:=if j.isNone then .ready else .done
theorem z3ef(k:IntKind)(z:Int):z317 (decE (.ret (.int k z)))=some (z1f4 z):=by
 show z317 (match z with
  |0=>AExit.normal
  |1=>.ret
  |z=>.exit (z - 2).toNat)=some (match (match z with
  |0=>AExit.normal
  |1=>.ret
  |z=>.exit (z - 2).toNat) with
  | .ret=>AJump.ret
  | .exit id=>.exit id
  |_=>.none)
 split<;>rfl
section
variable {sites:List LSite}{both:z46}{s:LSite}{b N D:Nat}{c:Code}{t t0:T AV}{h h1 h2:AHeap}{args vs ws:List AV}{z:Int}{j:AJump}
theorem round_L(hb:h.get b=some (z23e .ready j N c t0 D))(hs:∀st jj,z2f5 sites ⟨st,jj,t0,N,y1b c,y20 c,y1d c,D⟩=some s)(hp:z346 N (y1b c).toList args t0=some t)(hg:z19f t s.sa=some vs)(ea:s.fa both vs h=some (.ret (.tup ws),h1))(k1:h1.get b=h.get b)(hg2:z19f (Fr.tree (s.ts.zip ws)) s.ts=some ws)(eb:s.fb both ws (h1.put b (z23e .busy j N c t0 D))=some (.ret (.int .i64 z),h2))(k2:h2.get b=some (z23e .busy j N c t0 D)):
  z307 sites both b args h=some (.ret (.bool (z1f4 z).isNone),h2.put b (z23e (stZ (z1f4 z)) (z1f4 z) N c t0 D)):=by
 unfold z307 z41b;unfold z23e at hb k2 eb ⊢;rw[hb];simp only[hp];rw[hs]
 have e1:s.A both ⟨t,[]⟩ h=some (.normal,⟨Fr.tree (s.ts.zip ws),[]⟩,h1):=by
  unfold LSite.A;simp only[hg,ea];rfl
 simp only[e1,z350];rw[k1,hb]
 have e2:s.B both ⟨Fr.tree (s.ts.zip ws),[]⟩ (h1.put b (.obj (.loop ⟨.busy,j,t0,N,y1b c,y20 c,y1d c,D⟩)))=some (decE (.ret (.int .i64 z)),⟨Fr.tree [],[]⟩,h2):=by
  unfold LSite.B;simp only[hg2,eb];rfl
 simp only[e2,z363,z3ef,k2];rfl
end
end
noncomputable section
open Go.RowKit
section
variable {P:Program}{both:z46}{sites:List LSite}{s:LSite}{b N D:Nat}{c:Code}{t0:T AV}{h:AHeap}{args vs:List AV}{j:AJump}{st:LoopState}{Q:ARes→AHeap→Prop}
theorem dynB_yld(hb:h.get b=some (z23e st j N c t0 D))(hl:Nat.beq args.length (y1b c).size=true):dynB P both (.yld b) args h=both true b args h:=by
 have e:z2ff P h args (some (.yld b))=some (.round b args,h):=by
  show z410 h args b=_;unfold z410;rw[hb];unfold z23e;simp only[hl,if_true]
 unfold dynB;rw[e]
theorem y33{k:AHeap→R}(hk:Wp (k h) Q):Wp (z222 [] h k) Q:=hk
theorem Wp.marks1{k:AHeap→R}{ds:DefT}(hD:h.get D=some (.obj .dfr))(hk:Wp (z222 ds (h.put D (.obj .shut)) k) Q):Wp (z222 (dmark D::ds) h k) Q:=by
 unfold z222 at hk ⊢
 have e:z274 (dmark D::ds) h=z274 ds (h.put D (.obj .shut)):=by
  show (match h.get D with
   |some (.obj .dfr)=>z274 ds (h.put D (.obj .shut))
   |_=>none)=_
  rw[hD]
 rw[e];exact hk
theorem round_W{G:Int→AHeap→Prop}(hb:h.get b=some (z23e .ready j N c t0 D))(hs:∀st jj,z2f5 sites ⟨st,jj,t0,N,y1b c,y20 c,y1d c,D⟩=some s)(hg:((z346 N (y1b c).toList args t0).bind fun t=>z19f t s.sa)=some vs)(ea : Wp (s.fa both vs h) fun r h1 => ∃ ws, r = .ret (.tup ws) ∧ h1.get b = h.get b ∧ z19f (Fr.tree (s.ts.zip ws)) s.ts = some ws ∧
   Wp (s.fb both ws (h1.put b (z23e .busy j N c t0 D))) fun r2 h2=>∃z,r2=.ret (.int .i64 z)∧h2.get b=some (z23e .busy j N c t0 D)∧G z (h2.put b (z23e (stZ (z1f4 z)) (z1f4 z) N c t0 D))):
  ∃z h',z307 sites both b args h=some (.ret (.bool (z1f4 z).isNone),h')∧G z h':=by
 obtain⟨t,hp,hg⟩:=Option.bind_eq_some_iff.1 hg;obtain⟨_,h1,e1,ws,rfl,k1,g2,_,h2,e2,z,rfl,k2,hG⟩:=ea;exact⟨z,_,round_L hb hs hp hg e1 k1 g2 e2 k2,hG⟩
end
section
variable {P:Program}{both:z46}{N:Nat}{c:Code}{t:T AV}{ds:DefT}{h h2:AHeap}{kn kr:AHeap→R}{ke:Nat→AHeap→R}{Q:ARes→AHeap→Prop}{g:FuncId}{first cap:List AV}{v:AV}{st:LoopState}{j:AJump}
theorem Wp.rng(hb:z117 P g=true)(e:both false g (first++[.yld (h.next+1)]++cap) (z475 N c t h)=some (.ret v,h2))(hq:h2.get (h.next+1)=some (z23e st j N c t h.next))(hs:st≠ .busy)(hn:j=.none→Wp (kn (h2.put (h.next+1) (z23e .exhausted j N c t h.next))) Q)(hr:j=.ret→Wp (kr (h2.put (h.next+1) (z23e .exhausted j N c t h.next))) Q)(he:∀id,j=.exit id→Wp (ke id (h2.put (h.next+1) (z23e .exhausted j N c t h.next))) Q):Wp (rngK (rngX P both N (.fn g first cap) c t ds h) kn kr ke) Q:=by
 cases j with
 |none=>exact Wp.rngN hb e hq hs rfl (hn rfl)
 |ret=>exact Wp.rngR hb e hq hs rfl (hr rfl)
 |exit id=>exact Wp.rngE hb e hq hs rfl (he id rfl)
end
theorem y7{α:Type}{a:α}{K:α→R}{Q:ARes→AHeap→Prop}(hk:∀x,x=a→Wp (K x) Q):Wp (Abs.lett a K) Q:=hk a rfl
end
end Go.Proofs.Yteecmjmglmpbpaa.Abs
namespace Go.Proofs.Yteecmjmglmpbpaa
open Go.RowKit Abs
noncomputable def z107(both:z46)(t0:AV)(t1:AV)(self:Int→AHeap→R)(t3:Int)(h_4:AHeap):R:=obind (z9 h_4 t1) fun v8=>obind (z31 v8) fun t8=>obind (z5f t8 t3 (z7e t8)) fun t10=>callN (both false 69 [ze t10] h_4) fun r11 h_10=>obind (z160 0 r11) fun v12=>obind (z31 v12) fun t12=>obind (z160 1 r11) fun v13=>obind (z17 .i64 v13) fun t13=>obind (z160 2 r11) fun v14=>obind (z17 .i64 v14) fun t14=>lett ((t14:Int) != 0) fun (t16:Bool)=>lett (fun (t23:Bool) (h_21:AHeap)=>ifB t23 (z222 [] h_21 fun h_24=>some (.ret (.tup []),h_24)) (lett (IntKind.i64.wrap (t3+t13)) fun (t26:Int)=>self t26 h_21)) fun j23=>ifB t16 (j23 true h_10) (callN (dynB Try.prog both t0 [.int .i64 t3,ze t12] h_10) fun r21 h_26=>obind (z2f r21) fun t21=>lett (!t21) fun (t22:Bool)=>j23 t22 h_26)
noncomputable def ze4(both:z46)(t0:AV)(t1:AV):Nat→Int→AHeap→R:=z130 (fun _ _=>none) (z107 both t0 t1)
theorem z199(both:z46)(t0:AV)(t1:AV)(m:Nat):ze4 both t0 t1 (m+1)=z107 both t0 t1 (ze4 both t0 t1 m):=rfl
noncomputable def zec(both:z46)(n:Nat)(t0:AV)(t1:AV)(h:AHeap):R:=ze4 both t0 t1 n 0 h
set_option maxHeartbeats 4000000 in
set_option maxRecDepth 20000 in
theorem z2fc{both:z46}(hc:BothAll Try.prog both){n:Nat}{t0:AV}{t1:AV}{h:AHeap}{rR:ARes}{hR:AHeap}(hF:zec both n t0 t1 h=some (rR,hR)):Says Try.prog 68 [t0,t1] h rR hR:=by
 unfold zec at hF;refine z41a (fn:=Try.f68) Try.func68 (c:=z3d Try.f68) (by kernel_rfl) (by kernel_rfl) (fun w0 m0=>?_);refine WR.weaken (l':=[(0,t0),(1,t1)]) (y8 (by kernel_rfl) (y8 (by kernel_rfl) (yf _))) ?_;refine WR.seqK (by kernel_rfl) (fun K1 n1 e1 q1 p1=>?_);refine WR.region (by kernel_rfl) ?_;refine WLR.val (d:=(some 3)) (v:=.int .i64 0) (h':=h) (by kernel_rfl) (by kernel_rfl) (by kernel_rfl) ?_;refine WLR.nil (by kernel_rfl) ?_;refine Go.weaken (l':=[(0,t0),(1,t1),(3,.int .i64 0)]) (y8 (by kernel_rfl) (y8 (by kernel_rfl) (y8 (by kernel_rfl) (yf _)))) ?_;refine n1 ?_;refine WR.blockK (by kernel_rfl) (fun K2 n2 s2 o2 q2 p2=>?_);refine WR.loopK (by kernel_rfl) (fun I3 K3 b3 n3 e3 q3 p3=>?_)
 have L3:∀(m:Nat) (t3:Int) (h_4:AHeap),ze4 both t0 t1 m t3 h_4=some (rR,hR)→Go w0 m0 (Func.ntmps Try.f68) I3 [(0,t0),(1,t1),(3,.int .i64 t3)] [] h_4:=by
  intro m
  induction m with
  |zero=>intro t3 h_4 hF;cases hF
  |succ m ih3=>
   intro t3 h_4 hF;rw[z199] at hF;unfold z107 at hF;refine b3 ?_;refine WR.blockK (by kernel_rfl) (fun K5 n5 s5 o5 q5 p5=>?_);refine WR.seqK (by kernel_rfl) (fun K6 n6 e6 q6 p6=>?_);refine WR.region (by kernel_rfl) ?_
   replace hF:=z4 hF;obtain⟨v8,e7,hF⟩:=hF
   replace hF:=z4 hF;obtain⟨t8,c8,hF⟩:=hF
   have c8:=z22 c8;subst c8;refine WLR.val (d:=(some 8)) (v:=ze t8) (h':=h_4) (by kernel_rfl) (by kernel_rfl) (Eq.trans (by kernel_rfl) (z12 (P:=Try.prog) (h:=h_4) (t:=9) (by kernel_rfl) e7)) ?_;refine WLR.val (d:=(some 9)) (v:=.int .i64 t3) (h':=h_4) (by kernel_rfl) (by kernel_rfl) (by kernel_rfl) ?_
   replace hF:=z4 hF;obtain⟨t10,e9,hF⟩:=hF
   refine WLR.val (d:=(some 10)) (v:=ze t10) (h':=h_4) (by kernel_rfl) (by kernel_rfl) (Eq.trans (by kernel_rfl) (z61 (P:=Try.prog) (h:=h_4) (t:=9) (A:=(some (.int .i64 t3))) (B:=none) (by kernel_rfl) (.inl ⟨_,rfl⟩) (.inr ⟨rfl,rfl⟩) e9)) ?_
   replace hF:=z18 hF;obtain⟨r11,h_10,e11,hF⟩:=hF
   refine WLR.call (hc.says.ok w0) (d:=(some 11)) (by kernel_rfl) (by kernel_rfl) (by kernel_rfl) e11 ?_;refine WLR.val (d:=(some 7)) (v:=r11) (h':=h_10) (by kernel_rfl) (by kernel_rfl) (by kernel_rfl) ?_
   replace hF:=z4 hF;obtain⟨v12,e12,hF⟩:=hF
   replace hF:=z4 hF;obtain⟨t12,c13,hF⟩:=hF
   have c13:=z22 c13;subst c13;refine WLR.val (d:=(some 12)) (v:=ze t12) (h':=h_10) (by kernel_rfl) (by kernel_rfl) (Eq.trans (by kernel_rfl) (z51 (h:=h_10) e12)) ?_
   replace hF:=z4 hF;obtain⟨v13,e14,hF⟩:=hF
   replace hF:=z4 hF;obtain⟨t13,c15,hF⟩:=hF
   have c15:=z15 c15;subst c15;refine WLR.val (d:=(some 13)) (v:=.int .i64 t13) (h':=h_10) (by kernel_rfl) (by kernel_rfl) (Eq.trans (by kernel_rfl) (z51 (h:=h_10) e14)) ?_
   replace hF:=z4 hF;obtain⟨v14,e16,hF⟩:=hF
   replace hF:=z4 hF;obtain⟨t14,c17,hF⟩:=hF
   have c17:=z15 c17;subst c17;refine WLR.val (d:=(some 14)) (v:=.int .i64 t14) (h':=h_10) (by kernel_rfl) (by kernel_rfl) (Eq.trans (by kernel_rfl) (z51 (h:=h_10) e16)) ?_;refine WLR.val (d:=(some 4)) (v:=ze t12) (h':=h_10) (by kernel_rfl) (by kernel_rfl) (by kernel_rfl) ?_;refine WLR.val (d:=(some 5)) (v:=.int .i64 t13) (h':=h_10) (by kernel_rfl) (by kernel_rfl) (by kernel_rfl) ?_;refine WLR.val (d:=(some 6)) (v:=.int .i64 t14) (h':=h_10) (by kernel_rfl) (by kernel_rfl) (by kernel_rfl) ?_;refine WLR.nil (by kernel_rfl) ?_;refine Go.weaken (l':=[(0,t0),(1,t1),(3,.int .i64 t3),(4,ze t12),(5,.int .i64 t13),(6,.int .i64 t14)]) (y8 (by kernel_rfl) (y8 (by kernel_rfl) (y8 (by kernel_rfl) (y8 (by kernel_rfl) (y8 (by kernel_rfl) (y8 (by kernel_rfl) (yf _))))))) ?_;refine n6 ?_;refine WR.seqK (by kernel_rfl) (fun K18 n18 e18 q18 p18=>?_);refine WR.seqK (by kernel_rfl) (fun K19 n19 e19 q19 p19=>?_);refine WR.region (by kernel_rfl) ?_;refine WLR.val (d:=(some 15)) (v:=.int .i64 t14) (h':=h_10) (by kernel_rfl) (by kernel_rfl) (by kernel_rfl) ?_
   replace hF:=z7 hF;obtain⟨t16,e20,hF⟩:=hF
   refine WLR.val (d:=(some 16)) (v:=.bool t16) (h':=h_10) (by kernel_rfl) (by kernel_rfl) (z2a AV.bool e20 (by kernel_rfl)) ?_;refine WLR.val (d:=(some 17)) (v:=.bool t16) (h':=h_10) (by kernel_rfl) (by kernel_rfl) (by kernel_rfl) ?_
   replace hF:=z7 hF;obtain⟨j23,e22,hF⟩:=hF
   have J23:∀(t23:Bool) (h_21:AHeap),j23 t23 h_21=some (rR,hR)→WLR Try.prog w0 m0 (Func.ntmps Try.f68) none 0 (Code.ops (y6 (y6 (y4 (y6 (y6 (y6 (y4 (z3d Try.f68))))))))) 9 K19 [(0,t0),(1,t1),(3,.int .i64 t3),(5,.int .i64 t13),(23,.bool t23)] [] h_21:=by
    intro t23 h_21 hF;rw[e22] at hF;refine WLR.nil (by kernel_rfl) ?_;refine Go.weaken (l':=[(0,t0),(1,t1),(3,.int .i64 t3),(5,.int .i64 t13),(23,.bool t23)]) (y8 (by kernel_rfl) (y8 (by kernel_rfl) (y8 (by kernel_rfl) (y8 (by kernel_rfl) (y8 (by kernel_rfl) (yf _)))))) ?_;refine n19 ?_
    cases t23 with
    |true=>
     replace hF:=z53 hF
     refine WR.cond_true (by kernel_rfl) (by kernel_rfl) ?_;refine WR.ret (by kernel_rfl) ?_;refine q18 ?_;refine q5 ?_;refine q3 ?_;refine q2 ?_;refine y3d hF (fun h_24 hF=>?_);obtain⟨hF,hF2⟩:=z1a2 hF;subst hF;subst hF2;exact z495 (rs:=[]) (vs:=[]) (by kernel_rfl) zc (by kernel_rfl)
    |false=>
     replace hF:=z54 hF
     refine WR.cond_false (by kernel_rfl) (by kernel_rfl) ?_;refine WR.skip (by kernel_rfl) ?_;refine n18 ?_;refine WR.region (by kernel_rfl) ?_;refine WLR.val (d:=(some 24)) (v:=.int .i64 t3) (h':=h_21) (by kernel_rfl) (by kernel_rfl) (by kernel_rfl) ?_;refine WLR.val (d:=(some 25)) (v:=.int .i64 t13) (h':=h_21) (by kernel_rfl) (by kernel_rfl) (by kernel_rfl) ?_
     replace hF:=z7 hF;obtain⟨t26,e25,hF⟩:=hF
     refine WLR.val (d:=(some 26)) (v:=.int .i64 t26) (h':=h_21) (by kernel_rfl) (by kernel_rfl) (z2a (AV.int .i64) e25 (by kernel_rfl)) ?_;refine WLR.val (d:=(some 3)) (v:=.int .i64 t26) (h':=h_21) (by kernel_rfl) (by kernel_rfl) (by kernel_rfl) ?_;refine WLR.nil (by kernel_rfl) ?_;refine Go.weaken (l':=[(0,t0),(1,t1),(3,.int .i64 t26)]) (y8 (by kernel_rfl) (y8 (by kernel_rfl) (y8 (by kernel_rfl) (yf _)))) ?_;refine n5 ?_;refine n3 ?_;exact Go.weaken (y8 (by kernel_rfl) (y8 (by kernel_rfl) (y8 (by kernel_rfl) (yf _)))) (ih3 _ _ hF)
   cases t16 with
   |true=>
    replace hF:=z53 hF
    refine WLR.not (d:=(some 18)) (by kernel_rfl) (by kernel_rfl) ?_;refine WLR.not (d:=(some 19)) (by kernel_rfl) (by kernel_rfl) ?_;refine WLR.not (d:=(some 20)) (by kernel_rfl) (by kernel_rfl) ?_;refine WLR.not (d:=(some 21)) (by kernel_rfl) (by kernel_rfl) ?_;refine WLR.not (d:=(some 22)) (by kernel_rfl) (by kernel_rfl) ?_;refine WLR.val (d:=(some 23)) (v:=.bool true) (h':=h_10) (by kernel_rfl) (by kernel_rfl) (by kernel_rfl) ?_;exact WLR.weaken (y8 (by kernel_rfl) (y8 (by kernel_rfl) (y8 (by kernel_rfl) (y8 (by kernel_rfl) (y8 (by kernel_rfl) (yf _)))))) (J23 _ _ hF)
   |false=>
    replace hF:=z54 hF
    refine WLR.val (d:=(some 18)) (v:=t0) (h':=h_10) (by kernel_rfl) (by kernel_rfl) (by kernel_rfl) ?_;refine WLR.val (d:=(some 19)) (v:=.int .i64 t3) (h':=h_10) (by kernel_rfl) (by kernel_rfl) (by kernel_rfl) ?_;refine WLR.val (d:=(some 20)) (v:=ze t12) (h':=h_10) (by kernel_rfl) (by kernel_rfl) (by kernel_rfl) ?_
    replace hF:=z18 hF;obtain⟨r21,h_26,e27,hF⟩:=hF
    replace hF:=z4 hF;obtain⟨t21,c28,hF⟩:=hF
    have c28:=z1e c28;subst c28;refine WLR.dyn (d:=(some 21)) hc e27 ?_
    replace hF:=z7 hF;obtain⟨t22,e29,hF⟩:=hF
    refine WLR.val (d:=(some 22)) (v:=.bool t22) (h':=h_26) (by kernel_rfl) (by kernel_rfl) (z2a AV.bool e29 (by kernel_rfl)) ?_;refine WLR.val (d:=(some 23)) (v:=.bool t22) (h':=h_26) (by kernel_rfl) (by kernel_rfl) (by kernel_rfl) ?_;exact WLR.weaken (y8 (by kernel_rfl) (y8 (by kernel_rfl) (y8 (by kernel_rfl) (y8 (by kernel_rfl) (y8 (by kernel_rfl) (yf _)))))) (J23 _ _ hF)
 exact Go.weaken (y8 (by kernel_rfl) (y8 (by kernel_rfl) (y8 (by kernel_rfl) (yf _)))) (L3 _ _ _ hF)
noncomputable def ze3(both:z46)(n:Nat):FnT:=fun args h=>match args with
 |[x0,x1]=>zec both n x0 x1 h
 |_=>none
set_option maxRecDepth 100000 in
theorem z261(both:z46)(n:Nat)(t0:AV)(t1:AV)(h:AHeap):ze3 both n [t0,t1] h=zec both n t0 t1 h:=
 rfl
theorem z260{both:z46}(hc:BothAll Try.prog both)(n:Nat):z372 Try.prog 68 (ze3 both n):=by
 intro args h r h2 e;unfold ze3 at e
 split at e
 ·exact z2fc hc (n:=n) e
 ·cases e
noncomputable def za3(_:z46)(_:Nat)(t7:AV)(t26:Int)(t27:zf)(h:AHeap):R:=some (.ret (.tup [t7,.int .i64 t26,ze t27]),h)
set_option maxHeartbeats 4000000 in
set_option maxRecDepth 20000 in
theorem z28e{both:z46}(_:BothAll Try.prog both){n:Nat}{t7:AV}{t26:Int}{t27:zf}{h:AHeap}{rR:ARes}{hR:AHeap}(hF:za3 both n t7 t26 t27 h=some (rR,hR)){w0:Base}{m0:Map}{rd:Option Nat}{nR:Nat}{ds:DefT}:WR Try.prog w0 m0 (Func.ntmps Try.f29) rd nR (y20 (y6 (y4 (y6 (y4 (y4 (y4 (y4 (z3d Try.f29))))))))) (z478 w0 m0 (Func.ntmps Try.f29) .normal ⟨Fr.tree (tupFr [7,8,9] rR),ds⟩ hR) [(7,t7),(26,.int .i64 t26),(27,ze t27)] ds h:=by
 unfold za3 at hF;refine WR.seqK (by kernel_rfl) (fun K41 n41 e41 q41 p41=>?_);refine WR.region (by kernel_rfl) ?_;refine WLR.val (d:=(some 8)) (v:=.int .i64 t26) (h':=h) (by kernel_rfl) (by kernel_rfl) (by kernel_rfl) ?_;refine WLR.nil (by kernel_rfl) ?_;refine Go.weaken (l':=[(7,t7),(8,.int .i64 t26),(27,ze t27)]) (y8 (by kernel_rfl) (y8 (by kernel_rfl) (y8 (by kernel_rfl) (yf _)))) ?_;refine n41 ?_;refine WR.region (by kernel_rfl) ?_;refine WLR.val (d:=(some 9)) (v:=ze t27) (h':=h) (by kernel_rfl) (by kernel_rfl) (by kernel_rfl) ?_;refine WLR.nil (by kernel_rfl) ?_;refine Go.weaken (l':=[(7,t7),(8,.int .i64 t26),(9,ze t27)]) (y8 (by kernel_rfl) (y8 (by kernel_rfl) (y8 (by kernel_rfl) (yf _)))) ?_;obtain⟨hF,hF2⟩:=z1a2 hF;subst hF;subst hF2;exact y44 (l':=[(7,t7),(8,.int .i64 t26),(9,ze t27)]) (y8 (by kernel_rfl) (y8 (by kernel_rfl) (y8 (by kernel_rfl) (yf _))))
noncomputable def za7(both:z46)(n:Nat):FnT:=fun args h=>match args with
 |[x7,x26,x27]=>obind (z17 .i64 x26) fun t26=>obind (z31 x27) fun t27=>za3 both n x7 t26 t27 h
 |_=>none
set_option maxRecDepth 100000 in
theorem z1dc(both:z46)(n:Nat)(t7:AV)(t26:Int)(t27:zf)(h:AHeap):za7 both n [t7,.int .i64 t26,ze t27] h=za3 both n t7 t26 t27 h:=
 (Eq.trans (z21e (fun t26=>obind (z31 (ze t27)) fun t27=>za3 both n t7 t26 t27 h) (z5 .i64 t26)) (Eq.trans (z21e (fun t27=>za3 both n t7 t26 t27 h) (z16 t27)) rfl))
noncomputable def za2(both:z46)(_:Nat)(t7:AV)(t8:Int)(t9:zf)(h:AHeap):R:=callN (both false 54 [ze t9] h) fun r30 h_44=>obind (z160 0 r30) fun v31=>obind (z132 v31) fun t31=>obind (z160 1 r30) fun v32=>obind (z2f v32) fun t32=>lett (newH h_44 89 [.int .i64 0,.int .i64 0,.int .i64 0]) fun h_50=>obind (z27 h_50 3 t31 (z1a h_44)) fun h_52=>lett (!t32) fun (t34:Bool)=>ifB t34 (some (.ret (.int .i64 2),h_52)) (obind (z20 0 t7) fun t35=>obind (z9 h_52 t35) fun v36=>obind (z2b h_52 3 (z1a h_44)) fun t37=>outK (z178 Try.prog h_52 83 1 [(0,.agg t37)]) fun v38 h_61=>outK (z41 Try.prog h_61 83 83 v36 v38) fun v39 h_63=>obind (z20 0 t7) fun t40=>obind (z27 h_63 1 (AV.cells v39) t40) fun h_66=>lett (IntKind.i64.wrap (t8+(z7e t9))) fun (t44:Int)=>lett (IntKind.i64.wrap (t44+12)) fun (t45:Int)=>obind (z20 1 t7) fun t46=>obind (z27 h_66 1 [.int .i64 t45] t46) fun h_71=>some (.ret (.int .i64 0),h_71))
set_option maxHeartbeats 4000000 in
set_option maxRecDepth 20000 in
theorem z28d{both:z46}(hc:BothAll Try.prog both){n:Nat}{t7:AV}{t8:Int}{t9:zf}{h:AHeap}{rR:ARes}{hR:AHeap}(hF:za2 both n t7 t8 t9 h=some (rR,hR)){w0:Base}{m0:Map}{rd:Option Nat}{nR:Nat}{ds:DefT}:WR Try.prog w0 m0 (Func.ntmps Try.f29) rd nR (y1d (y6 (y4 (y6 (y4 (y4 (y4 (y4 (z3d Try.f29))))))))) (z478 w0 m0 (Func.ntmps Try.f29) (decE rR) ⟨Fr.tree [],ds⟩ hR) [(7,t7),(8,.int .i64 t8),(9,ze t9)] ds h:=by
 unfold za2 at hF;refine WR.blockK (by kernel_rfl) (fun K42 n42 s42 o42 q42 p42=>?_);refine WR.seqK (by kernel_rfl) (fun K43 n43 e43 q43 p43=>?_);refine WR.region (by kernel_rfl) ?_;refine WLR.val (d:=(some 29)) (v:=ze t9) (h':=h) (by kernel_rfl) (by kernel_rfl) (by kernel_rfl) ?_
 replace hF:=z18 hF;obtain⟨r30,h_44,e45,hF⟩:=hF
 refine WLR.call (hc.says.ok w0) (d:=(some 30)) (by kernel_rfl) (by kernel_rfl) (by kernel_rfl) e45 ?_;refine WLR.val (d:=(some 28)) (v:=r30) (h':=h_44) (by kernel_rfl) (by kernel_rfl) (by kernel_rfl) ?_
 replace hF:=z4 hF;obtain⟨v31,e46,hF⟩:=hF
 replace hF:=z4 hF;obtain⟨t31,c47,hF⟩:=hF
 have c47:=zb9 c47;subst c47;refine WLR.val (d:=(some 31)) (v:=.agg t31) (h':=h_44) (by kernel_rfl) (by kernel_rfl) (Eq.trans (by kernel_rfl) (z51 (h:=h_44) e46)) ?_
 replace hF:=z4 hF;obtain⟨v32,e48,hF⟩:=hF
 replace hF:=z4 hF;obtain⟨t32,c49,hF⟩:=hF
 have c49:=z1e c49;subst c49;refine WLR.val (d:=(some 32)) (v:=.bool t32) (h':=h_44) (by kernel_rfl) (by kernel_rfl) (Eq.trans (by kernel_rfl) (z51 (h:=h_44) e48)) ?_
 replace hF:=z7 hF;obtain⟨h_50,e51,hF⟩:=hF
 refine WLR.val (d:=(some 10)) (v:=(z1a h_44)) (h':=h_50) (by kernel_rfl) (by kernel_rfl) (z333 e51 (by kernel_rfl)) ?_
 replace hF:=z4 hF;obtain⟨h_52,e53,hF⟩:=hF
 refine WLR.eff (h':=h_52) (by kernel_rfl) (by kernel_rfl) (Eq.trans (by kernel_rfl) (z2c (P:=Try.prog) (h:=h_50) (t:=89) (v:=(.agg t31)) (by kernel_rfl) (by kernel_rfl) e53)) ?_;refine WLR.val (d:=(some 11)) (v:=.bool t32) (h':=h_52) (by kernel_rfl) (by kernel_rfl) (by kernel_rfl) ?_;refine WLR.nil (by kernel_rfl) ?_;refine Go.weaken (l':=[(7,t7),(8,.int .i64 t8),(9,ze t9),(10,(z1a h_44)),(11,.bool t32)]) (y8 (by kernel_rfl) (y8 (by kernel_rfl) (y8 (by kernel_rfl) (y8 (by kernel_rfl) (y8 (by kernel_rfl) (yf _)))))) ?_;refine n43 ?_;refine WR.seqK (by kernel_rfl) (fun K54 n54 e54 q54 p54=>?_);refine WR.seqK (by kernel_rfl) (fun K55 n55 e55 q55 p55=>?_);refine WR.region (by kernel_rfl) ?_;refine WLR.val (d:=(some 33)) (v:=.bool t32) (h':=h_52) (by kernel_rfl) (by kernel_rfl) (by kernel_rfl) ?_
 replace hF:=z7 hF;obtain⟨t34,e56,hF⟩:=hF
 refine WLR.val (d:=(some 34)) (v:=.bool t34) (h':=h_52) (by kernel_rfl) (by kernel_rfl) (z2a AV.bool e56 (by kernel_rfl)) ?_;refine WLR.nil (by kernel_rfl) ?_;refine Go.weaken (l':=[(7,t7),(8,.int .i64 t8),(9,ze t9),(10,(z1a h_44)),(34,.bool t34)]) (y8 (by kernel_rfl) (y8 (by kernel_rfl) (y8 (by kernel_rfl) (y8 (by kernel_rfl) (y8 (by kernel_rfl) (yf _)))))) ?_;refine n55 ?_
 cases t34 with
 |true=>
  replace hF:=z53 hF
  refine WR.cond_true (by kernel_rfl) (by kernel_rfl) ?_;refine WR.exit (by kernel_rfl) ?_;refine e54 ?_;refine o42 (by kernel_rfl) ?_;obtain⟨hF,hF2⟩:=z1a2 hF;subst hF;subst hF2;exact Go.postE
 |false=>
  replace hF:=z54 hF
  refine WR.cond_false (by kernel_rfl) (by kernel_rfl) ?_;refine WR.skip (by kernel_rfl) ?_;refine n54 ?_;refine WR.seqK (by kernel_rfl) (fun K57 n57 e57 q57 p57=>?_);refine WR.region (by kernel_rfl) ?_
  replace hF:=z4 hF;obtain⟨t35,e58,hF⟩:=hF
  refine WLR.val (d:=(some 35)) (v:=t35) (h':=h_52) (by kernel_rfl) (by kernel_rfl) (Eq.trans (by kernel_rfl) (z10 (P:=Try.prog) (h:=h_52) (s:=85) (f:=0) (by kernel_rfl) e58)) ?_
  replace hF:=z4 hF;obtain⟨v36,e59,hF⟩:=hF
  refine WLR.val (d:=(some 36)) (v:=v36) (h':=h_52) (by kernel_rfl) (by kernel_rfl) (Eq.trans (by kernel_rfl) (z12 (P:=Try.prog) (h:=h_52) (t:=83) (by kernel_rfl) e59)) ?_
  replace hF:=z4 hF;obtain⟨t37,e60,hF⟩:=hF
  refine WLR.val (d:=(some 37)) (v:=.agg t37) (h':=h_52) (by kernel_rfl) (by kernel_rfl) (Eq.trans (by kernel_rfl) (z36 (P:=Try.prog) (h:=h_52) (t:=89) (by kernel_rfl) (by kernel_rfl) e60)) ?_
  replace hF:=z26 hF;obtain⟨v38,h_61,e62,hF⟩:=hF
  refine WLR.val (d:=(some 38)) (v:=v38) (h':=h_61) (by kernel_rfl) (by kernel_rfl) (Eq.trans (by kernel_rfl) e62) ?_
  replace hF:=z26 hF;obtain⟨v39,h_63,e64,hF⟩:=hF
  refine WLR.val (d:=(some 39)) (v:=v39) (h':=h_63) (by kernel_rfl) (by kernel_rfl) (Eq.trans (by kernel_rfl) e64) ?_
  replace hF:=z4 hF;obtain⟨t40,e65,hF⟩:=hF
  refine WLR.val (d:=(some 40)) (v:=t40) (h':=h_63) (by kernel_rfl) (by kernel_rfl) (Eq.trans (by kernel_rfl) (z10 (P:=Try.prog) (h:=h_63) (s:=85) (f:=0) (by kernel_rfl) e65)) ?_
  replace hF:=z4 hF;obtain⟨h_66,e67,hF⟩:=hF
  refine WLR.eff (h':=h_66) (by kernel_rfl) (by kernel_rfl) (Eq.trans (by kernel_rfl) (z2c (P:=Try.prog) (h:=h_63) (t:=83) (v:=v39) (by kernel_rfl) (by kernel_rfl) e67)) ?_;refine WLR.nil (by kernel_rfl) ?_;refine Go.weaken (l':=[(7,t7),(8,.int .i64 t8),(9,ze t9)]) (y8 (by kernel_rfl) (y8 (by kernel_rfl) (y8 (by kernel_rfl) (yf _)))) ?_;refine n57 ?_;refine WR.region (by kernel_rfl) ?_;refine WLR.val (d:=(some 41)) (v:=.int .i64 t8) (h':=h_66) (by kernel_rfl) (by kernel_rfl) (by kernel_rfl) ?_;refine WLR.val (d:=(some 42)) (v:=ze t9) (h':=h_66) (by kernel_rfl) (by kernel_rfl) (by kernel_rfl) ?_;refine WLR.val (d:=(some 43)) (v:=.int .i64 (z7e t9)) (h':=h_66) (by kernel_rfl) (by kernel_rfl) (by kernel_rfl) ?_
  replace hF:=z7 hF;obtain⟨t44,e68,hF⟩:=hF
  refine WLR.val (d:=(some 44)) (v:=.int .i64 t44) (h':=h_66) (by kernel_rfl) (by kernel_rfl) (z2a (AV.int .i64) e68 (by kernel_rfl)) ?_
  replace hF:=z7 hF;obtain⟨t45,e69,hF⟩:=hF
  refine WLR.val (d:=(some 45)) (v:=.int .i64 t45) (h':=h_66) (by kernel_rfl) (by kernel_rfl) (z2a (AV.int .i64) e69 (by kernel_rfl)) ?_
  replace hF:=z4 hF;obtain⟨t46,e70,hF⟩:=hF
  refine WLR.val (d:=(some 46)) (v:=t46) (h':=h_66) (by kernel_rfl) (by kernel_rfl) (Eq.trans (by kernel_rfl) (z10 (P:=Try.prog) (h:=h_66) (s:=85) (f:=1) (by kernel_rfl) e70)) ?_
  replace hF:=z4 hF;obtain⟨h_71,e72,hF⟩:=hF
  refine WLR.eff (h':=h_71) (by kernel_rfl) (by kernel_rfl) (Eq.trans (by kernel_rfl) (z2c (P:=Try.prog) (h:=h_66) (t:=3) (v:=(.int .i64 t45)) (by kernel_rfl) (by kernel_rfl) e72)) ?_;refine WLR.nil (by kernel_rfl) ?_;refine Go.weaken (l':=[]) (yf _) ?_;refine n42 ?_;obtain⟨hF,hF2⟩:=z1a2 hF;subst hF;subst hF2;exact y44 (l':=[]) (yf _)
noncomputable def za6(both:z46)(n:Nat):FnT:=fun args h=>match args with
 |[x7,x8,x9]=>obind (z17 .i64 x8) fun t8=>obind (z31 x9) fun t9=>za2 both n x7 t8 t9 h
 |_=>none
set_option maxRecDepth 100000 in
theorem z1db(both:z46)(n:Nat)(t7:AV)(t8:Int)(t9:zf)(h:AHeap):za6 both n [t7,.int .i64 t8,ze t9] h=za2 both n t7 t8 t9 h:=
 (Eq.trans (z21e (fun t8=>obind (z31 (ze t9)) fun t9=>za2 both n t7 t8 t9 h) (z5 .i64 t8)) (Eq.trans (z21e (fun t9=>za2 both n t7 t8 t9 h) (z16 t9)) rfl))
noncomputable def z14(n:Nat):LSite:=⟨Func.ntmps Try.f29,(y6 (y4 (y6 (y4 (y4 (y4 (y4 (z3d Try.f29)))))))),[7,26,27],fun both=>za7 both n,[7,8,9],fun both=>za6 both n⟩
set_option maxRecDepth 20000 in
theorem z2a3(n:Nat):LSite.ok Try.prog (z14 n) where
 A := fun hc vs h r h2 e0 w0 m0 rd n2 ds => by
   have e:za7 _ n vs h=some (r,h2):=e0;clear e0;unfold za7 at e
   split at e
   ·replace e := z4 e; obtain ⟨t26, c26, e⟩ := e; have c26 := z15 c26; subst c26
    replace e:=z4 e;obtain⟨t27,c27,e⟩:=e;have c27:=z22 c27;subst c27
    exact z28e hc (n:=n) e
   ·cases e
 B := fun hc vs h r h2 e0 w0 m0 rd n2 ds => by
   have e:za6 _ n vs h=some (r,h2):=e0;clear e0;unfold za6 at e
   split at e
   ·replace e := z4 e; obtain ⟨t8, c8, e⟩ := e; have c8 := z15 c8; subst c8
    replace e:=z4 e;obtain⟨t9,c9,e⟩:=e;have c9:=z22 c9;subst c9
    exact z28d hc (n:=n) e
   ·cases e
noncomputable def z125(both:z46)(_:Nat)(t0:AV)(t1:Int)(h:AHeap):R:=lett (newH h 85 [.nsl,.int .i64 0,.int .i64 0]) fun h_2=>callN (both false 52 [t0,.int .i64 t1] h_2) fun r15 h_5=>obind (z160 0 r15) fun v16=>obind (z31 v16) fun t16=>obind (z160 1 r15) fun v17=>obind (z17 .i64 v17) fun t17=>lett ((t17:Int) != 0) fun (t19:Bool)=>ifB t19 (obind (z27 h_5 3 ([.nsl,.int .i64 0,.int .i64 0]:List AV) (z1a h)) fun h_15=>z222 [] h_15 fun h_17=>obind (z2b h_17 3 (z1a h)) fun w4=>some (.ret (.agg w4),h_17)) (lett (newH h_5 85 [.nsl,.int .i64 0,.int .i64 0]) fun h_20=>obind (z27 h_20 3 ([.nsl,.int .i64 0,.int .i64 (z7e t16)]:List AV) (z1a h_5)) fun h_22=>callN (both false 53 [ze t16] h_22) fun r25 h_26=>lett (fun (d:DefT) (h_30:AHeap)=>obind (z2b h_30 3 (z1a h_5)) fun t47=>obind (z27 h_30 3 t47 (z1a h)) fun h_33=>z222 d h_33 fun h_35=>obind (z2b h_35 3 (z1a h)) fun w4_37=>some (.ret (.agg w4_37),h_35)) fun k29=>rngK (rngX Try.prog both (Func.ntmps Try.f29) r25 (y6 (y4 (y6 (y4 (y4 (y4 (y4 (z3d Try.f29)))))))) (Fr.tree [(4,(z1a h)),(7,(z1a h_5)),(25,r25)]) [] h_26) (fun h_38=>k29 (dmark (AHeap.next h_26)::[]) h_38) (fun _=>none) (fun id h_40=>ifB (Nat.beq id 0) (k29 (dmark (AHeap.next h_26)::[]) h_40) (none)))
set_option maxHeartbeats 4000000 in
set_option maxRecDepth 20000 in
theorem z382{both:z46}(hc:BothAll Try.prog both){n:Nat}{t0:AV}{t1:Int}{h:AHeap}{rR:ARes}{hR:AHeap}(hF:z125 both n t0 t1 h=some (rR,hR)):Says Try.prog 29 [t0,.int .i64 t1] h rR hR:=by
 unfold z125 at hF;refine z41a (fn:=Try.f29) Try.func29 (c:=z3d Try.f29) (by kernel_rfl) (by kernel_rfl) (fun w0 m0=>?_);refine WR.weaken (l':=[(0,t0),(1,.int .i64 t1)]) (y8 (by kernel_rfl) (y8 (by kernel_rfl) (yf _))) ?_;refine WR.seqK (by kernel_rfl) (fun K1 n1 e1 q1 p1=>?_);refine WR.region (by kernel_rfl) ?_
 replace hF:=z7 hF;obtain⟨h_2,e3,hF⟩:=hF
 refine WLR.val (d:=(some 4)) (v:=(z1a h)) (h':=h_2) (by kernel_rfl) (by kernel_rfl) (z333 e3 (by kernel_rfl)) ?_;refine WLR.nil (by kernel_rfl) ?_;refine Go.weaken (l':=[(0,t0),(1,.int .i64 t1),(4,(z1a h))]) (y8 (by kernel_rfl) (y8 (by kernel_rfl) (y8 (by kernel_rfl) (yf _)))) ?_;refine n1 ?_;refine WR.seqK (by kernel_rfl) (fun K4 n4 e4 q4 p4=>?_);refine WR.region (by kernel_rfl) ?_;refine WLR.val (d:=(some 13)) (v:=t0) (h':=h_2) (by kernel_rfl) (by kernel_rfl) (by kernel_rfl) ?_;refine WLR.val (d:=(some 14)) (v:=.int .i64 t1) (h':=h_2) (by kernel_rfl) (by kernel_rfl) (by kernel_rfl) ?_
 replace hF:=z18 hF;obtain⟨r15,h_5,e6,hF⟩:=hF
 refine WLR.call (hc.says.ok w0) (d:=(some 15)) (by kernel_rfl) (by kernel_rfl) (by kernel_rfl) e6 ?_;refine WLR.val (d:=(some 12)) (v:=r15) (h':=h_5) (by kernel_rfl) (by kernel_rfl) (by kernel_rfl) ?_
 replace hF:=z4 hF;obtain⟨v16,e7,hF⟩:=hF
 replace hF:=z4 hF;obtain⟨t16,c8,hF⟩:=hF
 have c8:=z22 c8;subst c8;refine WLR.val (d:=(some 16)) (v:=ze t16) (h':=h_5) (by kernel_rfl) (by kernel_rfl) (Eq.trans (by kernel_rfl) (z51 (h:=h_5) e7)) ?_
 replace hF:=z4 hF;obtain⟨v17,e9,hF⟩:=hF
 replace hF:=z4 hF;obtain⟨t17,c10,hF⟩:=hF
 have c10:=z15 c10;subst c10;refine WLR.val (d:=(some 17)) (v:=.int .i64 t17) (h':=h_5) (by kernel_rfl) (by kernel_rfl) (Eq.trans (by kernel_rfl) (z51 (h:=h_5) e9)) ?_;refine WLR.val (d:=(some 5)) (v:=ze t16) (h':=h_5) (by kernel_rfl) (by kernel_rfl) (by kernel_rfl) ?_;refine WLR.val (d:=(some 6)) (v:=.int .i64 t17) (h':=h_5) (by kernel_rfl) (by kernel_rfl) (by kernel_rfl) ?_;refine WLR.nil (by kernel_rfl) ?_;refine Go.weaken (l':=[(4,(z1a h)),(5,ze t16),(6,.int .i64 t17)]) (y8 (by kernel_rfl) (y8 (by kernel_rfl) (y8 (by kernel_rfl) (yf _)))) ?_;refine n4 ?_;refine WR.seqK (by kernel_rfl) (fun K11 n11 e11 q11 p11=>?_);refine WR.seqK (by kernel_rfl) (fun K12 n12 e12 q12 p12=>?_);refine WR.region (by kernel_rfl) ?_;refine WLR.val (d:=(some 18)) (v:=.int .i64 t17) (h':=h_5) (by kernel_rfl) (by kernel_rfl) (by kernel_rfl) ?_
 replace hF:=z7 hF;obtain⟨t19,e13,hF⟩:=hF
 refine WLR.val (d:=(some 19)) (v:=.bool t19) (h':=h_5) (by kernel_rfl) (by kernel_rfl) (z2a AV.bool e13 (by kernel_rfl)) ?_;refine WLR.nil (by kernel_rfl) ?_;refine Go.weaken (l':=[(4,(z1a h)),(5,ze t16),(19,.bool t19)]) (y8 (by kernel_rfl) (y8 (by kernel_rfl) (y8 (by kernel_rfl) (yf _)))) ?_;refine n12 ?_
 cases t19 with
 |true=>
  replace hF:=z53 hF
  refine WR.cond_true (by kernel_rfl) (by kernel_rfl) ?_;refine WR.seqK (by kernel_rfl) (fun K14 n14 e14 q14 p14=>?_);refine WR.region (by kernel_rfl) ?_;refine WLR.val (d:=(some 20)) (v:=.agg ([.nsl,.int .i64 0,.int .i64 0]:List AV)) (h':=h_5) (by kernel_rfl) (by kernel_rfl) (by kernel_rfl) ?_
  replace hF:=z4 hF;obtain⟨h_15,e16,hF⟩:=hF
  refine WLR.eff (h':=h_15) (by kernel_rfl) (by kernel_rfl) (Eq.trans (by kernel_rfl) (z2c (P:=Try.prog) (h:=h_5) (t:=85) (v:=(.agg ([.nsl,.int .i64 0,.int .i64 0]:List AV))) (by kernel_rfl) (by kernel_rfl) e16)) ?_;refine WLR.nil (by kernel_rfl) ?_;refine Go.weaken (l':=[(4,(z1a h))]) (y8 (by kernel_rfl) (yf _)) ?_;refine n14 ?_;refine WR.ret (by kernel_rfl) ?_;refine q11 ?_;refine y3d hF (fun h_17 hF=>?_)
  replace hF:=z4 hF;obtain⟨w4,e18,hF⟩:=hF
  obtain⟨hF,hF2⟩:=z1a2 hF;subst hF;subst hF2;exact z495 (rs:=[.cell 4 85]) (vs:=[.agg w4]) (by kernel_rfl) (z295 (by kernel_rfl) (z36 (P:=Try.prog) (h:=h_17) (t:=85) (by kernel_rfl) (by kernel_rfl) e18) zc) (by kernel_rfl)
 |false=>
  replace hF:=z54 hF
  refine WR.cond_false (by kernel_rfl) (by kernel_rfl) ?_;refine WR.skip (by kernel_rfl) ?_;refine n11 ?_;refine WR.seqK (by kernel_rfl) (fun K19 n19 e19 q19 p19=>?_);refine WR.region (by kernel_rfl) ?_;refine WLR.val (d:=(some 21)) (v:=ze t16) (h':=h_5) (by kernel_rfl) (by kernel_rfl) (by kernel_rfl) ?_;refine WLR.val (d:=(some 22)) (v:=.int .i64 (z7e t16)) (h':=h_5) (by kernel_rfl) (by kernel_rfl) (by kernel_rfl) ?_;refine WLR.val (d:=(some 23)) (v:=.agg ([.nsl,.int .i64 0,.int .i64 (z7e t16)]:List AV)) (h':=h_5) (by kernel_rfl) (by kernel_rfl) (by kernel_rfl) ?_
  replace hF:=z7 hF;obtain⟨h_20,e21,hF⟩:=hF
  refine WLR.val (d:=(some 7)) (v:=(z1a h_5)) (h':=h_20) (by kernel_rfl) (by kernel_rfl) (z333 e21 (by kernel_rfl)) ?_
  replace hF:=z4 hF;obtain⟨h_22,e23,hF⟩:=hF
  refine WLR.eff (h':=h_22) (by kernel_rfl) (by kernel_rfl) (Eq.trans (by kernel_rfl) (z2c (P:=Try.prog) (h:=h_20) (t:=85) (v:=(.agg ([.nsl,.int .i64 0,.int .i64 (z7e t16)]:List AV))) (by kernel_rfl) (by kernel_rfl) e23)) ?_;refine WLR.nil (by kernel_rfl) ?_;refine Go.weaken (l':=[(4,(z1a h)),(5,ze t16),(7,(z1a h_5))]) (y8 (by kernel_rfl) (y8 (by kernel_rfl) (y8 (by kernel_rfl) (yf _)))) ?_;refine n19 ?_;refine WR.seqK (by kernel_rfl) (fun K24 n24 e24 q24 p24=>?_);refine WR.seqK (by kernel_rfl) (fun K25 n25 e25 q25 p25=>?_);refine WR.region (by kernel_rfl) ?_;refine WLR.val (d:=(some 24)) (v:=ze t16) (h':=h_22) (by kernel_rfl) (by kernel_rfl) (by kernel_rfl) ?_
  replace hF:=z18 hF;obtain⟨r25,h_26,e27,hF⟩:=hF
  refine WLR.call (hc.says.ok w0) (d:=(some 25)) (by kernel_rfl) (by kernel_rfl) (by kernel_rfl) e27 ?_;refine WLR.nil (by kernel_rfl) ?_;refine Go.weaken (l':=[(4,(z1a h)),(7,(z1a h_5)),(25,r25)]) (y8 (by kernel_rfl) (y8 (by kernel_rfl) (y8 (by kernel_rfl) (yf _)))) ?_;refine n25 ?_
  replace hF:=z7 hF;obtain⟨k29,e29,hF⟩:=hF
  have J29:∀(d:DefT) (h_30:AHeap),k29 d h_30=some (rR,hR)→Go w0 m0 (Func.ntmps Try.f29) (K24 .normal) [(4,(z1a h)),(7,(z1a h_5))] d h_30:=by
   intro d h_30 hF;rw[e29] at hF;refine n24 ?_;refine WR.seqK (by kernel_rfl) (fun K31 n31 e31 q31 p31=>?_);refine WR.region (by kernel_rfl) ?_
   replace hF:=z4 hF;obtain⟨t47,e32,hF⟩:=hF
   refine WLR.val (d:=(some 47)) (v:=.agg t47) (h':=h_30) (by kernel_rfl) (by kernel_rfl) (Eq.trans (by kernel_rfl) (z36 (P:=Try.prog) (h:=h_30) (t:=85) (by kernel_rfl) (by kernel_rfl) e32)) ?_
   replace hF:=z4 hF;obtain⟨h_33,e34,hF⟩:=hF
   refine WLR.eff (h':=h_33) (by kernel_rfl) (by kernel_rfl) (Eq.trans (by kernel_rfl) (z2c (P:=Try.prog) (h:=h_30) (t:=85) (v:=(.agg t47)) (by kernel_rfl) (by kernel_rfl) e34)) ?_;refine WLR.nil (by kernel_rfl) ?_;refine Go.weaken (l':=[(4,(z1a h))]) (y8 (by kernel_rfl) (yf _)) ?_;refine n31 ?_;refine WR.ret (by kernel_rfl) ?_;refine y3d hF (fun h_35 hF=>?_)
   replace hF:=z4 hF;obtain⟨w4_37,e36,hF⟩:=hF
   obtain⟨hF,hF2⟩:=z1a2 hF;subst hF;subst hF2;exact z495 (rs:=[.cell 4 85]) (vs:=[.agg w4_37]) (by kernel_rfl) (z295 (by kernel_rfl) (z36 (P:=Try.prog) (h:=h_35) (t:=85) (by kernel_rfl) (by kernel_rfl) e36) zc) (by kernel_rfl)
  refine WR.blockK (by kernel_rfl) (fun K28 n28 s28 o28 q28 p28=>?_);refine WR.rng hc hF (fun h_38 hF=>?_) (fun h_39 hF=>?_) (fun id h_40 hF=>?_)
  ·skip
   refine n28 ?_;exact Go.weaken (y8 (by kernel_rfl) (y8 (by kernel_rfl) (yf _))) (J29 _ _ hF)
  ·skip
   cases hF
  ·skip
   obtain⟨rfl,hF⟩:=ifB_id hF;refine s28 (by kernel_rfl) ?_;exact Go.weaken (y8 (by kernel_rfl) (y8 (by kernel_rfl) (yf _))) (J29 _ _ hF)
noncomputable def z124(both:z46)(n:Nat):FnT:=fun args h=>match args with
 |[x0,x1]=>obind (z17 .i64 x1) fun t1=>z125 both n x0 t1 h
 |_=>none
set_option maxRecDepth 100000 in
theorem z2a2(both:z46)(n:Nat)(t0:AV)(t1:Int)(h:AHeap):z124 both n [t0,.int .i64 t1] h=z125 both n t0 t1 h:=
 (Eq.trans (z21e (fun t1=>z125 both n t0 t1 h) (z5 .i64 t1)) rfl)
theorem z2a1{both:z46}(hc:BothAll Try.prog both)(n:Nat):z372 Try.prog 29 (z124 both n):=by
 intro args h r h2 e;unfold z124 at e
 split at e
 ·replace e := z4 e; obtain ⟨t1, c1, e⟩ := e; have c1 := z15 c1; subst c1
  exact z382 hc (n:=n) e
 ·cases e
noncomputable def zfb(v25:AV)(t27:Int)(v47:AV)(t48:Int)(k75:AHeap→R)(self:Int→AHeap→R)(t49:Int)(h_79:AHeap):R:=lett (decide (t49<t48)) fun (t50:Bool)=>ifB t50 (obind (z18d 3 v47 t49) fun t51=>obind (z2b h_79 3 t51) fun t52=>lett (newH h_79 89 [.int .i64 0,.int .i64 0,.int .i64 0]) fun h_88=>obind (z27 h_88 3 t52 (z1a h_79)) fun h_90=>obind (z9 h_90 (AV.ptr (AHeap.next h_79) 0)) fun v54=>obind (z17 .i64 v54) fun t54=>obind (z34 v25) fun t56=>obind (z20 3 t56) fun t57=>obind (z20 0 t57) fun t58=>obind (z9 h_90 t58) fun v59=>obind (z17 .i64 v59) fun t59=>lett (decide (t54>t59)) fun (t60:Bool)=>lett (fun (h_102:AHeap)=>lett (IntKind.i64.wrap (t49+1)) fun (t69:Int)=>self t69 h_102) fun k101=>ifB t60 (obind (z2b h_90 3 (z1a h_79)) fun t63=>obind (z34 v25) fun t65=>obind (z20 3 t65) fun t66=>obind (z27 h_90 3 t63 t66) fun h_107=>obind (z34 v25) fun t67=>obind (z20 6 t67) fun t68=>obind (z27 h_107 1 [.int .i64 t27] t68) fun h_111=>k101 h_111) (k101 h_90)) (k75 h_79)
noncomputable def z126(v25:AV)(t27:Int)(v47:AV)(t48:Int)(k75:AHeap→R):Nat→Int→AHeap→R:=z130 (fun _ _=>none) (zfb v25 t27 v47 t48 k75)
theorem z164(v25:AV)(t27:Int)(v47:AV)(t48:Int)(k75:AHeap→R)(m:Nat):z126 v25 t27 v47 t48 k75 (m+1)=zfb v25 t27 v47 t48 k75 (z126 v25 t27 v47 t48 k75 m):=rfl
noncomputable def zfc(call:z11)(n:Nat)(t0:AV)(v25:AV)(t26:List AV)(k36:AHeap→R)(self:Int→AHeap→R)(t27:Int)(h_40:AHeap):R:=lett (decide (t27<2)) fun (t28:Bool)=>ifB t28 (outK (zc4 Try.prog h_40 87 (some (.agg t26)) (some (.int .i64 t27))) fun v30 h_47=>obind (z132 v30) fun t30=>lett (newH h_47 85 [.nsl,.int .i64 0,.int .i64 0]) fun h_50=>obind (z27 h_50 3 t30 (z1a h_47)) fun h_52=>obind (z2b h_52 3 (z1a h_47)) fun t31=>callN (call 30 [.agg t31,t0,.int .i64 t27] h_52) fun r34 h_57=>obind (z17 .i64 r34) fun t34=>lett ((t34:Int) != 0) fun (t36:Bool)=>ifB t36 (some (.ret (.tup [AV.nilp,.int .i64 t34]),h_57)) (obind (z9 h_57 (AV.ptr (AHeap.next h_47) 0)) fun v41=>obind (z197 v41) fun t42=>obind (z34 v25) fun t43=>obind (z20 1 t43) fun t44=>obind (z17b 2 1 t44 t27) fun t45=>obind (z27 h_57 1 [.int .i64 t42] t45) fun h_69=>obind (z9 h_69 (AV.ptr (AHeap.next h_47) 0)) fun v47=>obind (z197 v47) fun t48=>lett (fun (h_76:AHeap)=>lett (IntKind.i64.wrap (t27+1)) fun (t70:Int)=>self t70 h_76) fun k75=>z126 v25 t27 v47 t48 k75 n 0 h_69)) (k36 h_40)
noncomputable def z66(call:z11)(n:Nat)(t0:AV)(v25:AV)(t26:List AV)(k36:AHeap→R):Nat→Int→AHeap→R:=z130 (fun _ _=>none) (zfc call n t0 v25 t26 k36)
theorem z165(call:z11)(n:Nat)(t0:AV)(v25:AV)(t26:List AV)(k36:AHeap→R)(m:Nat):z66 call n t0 v25 t26 k36 (m+1)=zfc call n t0 v25 t26 k36 (z66 call n t0 v25 t26 k36 m):=rfl
noncomputable def z14a(call:z11)(n:Nat)(t0:AV)(h:AHeap):R:=outK (z65 Try.prog h .eql 23 true (some t0) (some AV.nilp)) fun v12 h_4=>obind (z2f v12) fun t12=>ifB t12 (some (.ret (.tup [AV.nilp,.int .i64 1]),h_4)) (callN (call 28 [t0] h_4) fun r14 h_10=>obind (z2f r14) fun t14=>lett (!t14) fun (t15:Bool)=>ifB t15 (some (.ret (.tup [AV.nilp,.int .i64 40]),h_10)) (callN (call 29 [t0,.int .i64 0] h_10) fun r17 h_16=>obind (z132 r17) fun t17=>callN (call 29 [t0,.int .i64 1] h_16) fun r19 h_19=>obind (z132 r19) fun t19=>obind (z36d Try.prog 87 [(0,.agg t17),(1,.agg t19)]) fun t20=>lett (newH h_19 87 [.nsl,.int .i64 0,.int .i64 0,.nsl,.int .i64 0,.int .i64 0]) fun h_23=>obind (z27 h_23 6 t20 (z1a h_19)) fun h_25=>obind (z36d Try.prog 89 [(1,.agg ([.int .i64 0,.int .i64 (-1)]:List AV))]) fun t23=>obind (z36d Try.prog 92 [(0,t0),(2,.agg t23)]) fun t24=>outK (zba h_25 92 (some (.agg t24))) fun v25 h_30=>obind (z2b h_30 6 (z1a h_19)) fun t26=>lett (fun (h_37:AHeap)=>some (.ret (.tup [v25,.int .i64 0]),h_37)) fun k36=>z66 call n t0 v25 t26 k36 n 0 h_30))
set_option maxHeartbeats 4000000 in
set_option maxRecDepth 20000 in
theorem z383{call:z11}(hc:SaysAll Try.prog call){n:Nat}{t0:AV}{h:AHeap}{rR:ARes}{hR:AHeap}(hF:z14a call n t0 h=some (rR,hR)):Says Try.prog 10 [t0] h rR hR:=by
 unfold z14a at hF;refine sO Try.func10 fun w0 m0=>?_;refine wW [(0,t0)] ?_;refine oG fun n1=>W.r ?_;refine oA 2 AV.nilp ?_;refine oA 3 (.int .i64 0) ?_;refine oV [(0,t0)] (n1 ?_);refine oH fun n2 q2=>?_;refine oG fun n3=>W.r ?_;refine oA 11 t0 ?_
 replace hF:=z26 hF;obtain⟨v12,h_4,e5,hF⟩:=hF
 replace hF:=z4 hF;obtain⟨t12,c6,hF⟩:=hF
 have c6:=z1e c6;subst c6;refine WL.b (some 12) (.bool t12) h_4 e5 ?_;refine oV [(0,t0),(12,.bool t12)] (n3 ?_)
 cases t12 with
 |true=>
  refine oT hF fun hF=>?_;refine oG fun n7=>W.r ?_;refine oA 2 AV.nilp ?_;refine oA 3 (.int .i64 1) ?_;refine oV [(2,AV.nilp),(3,.int .i64 1)] (n7 (oY (q2 ?_)));exact lZ hF [.tmp 2,.tmp 3] [AV.nilp,.int .i64 1] (rT (rT zc))
 |false=>
  refine oU hF fun hF=>?_;refine oZ (n2 ?_);refine oH fun n8 q8=>?_;refine oG fun n9=>W.r ?_;refine oA 13 t0 ?_;refine oCb hc 14 hF fun t14 h_10 hF=>?_;refine oB 15 hF fun t15 hF=>?_;refine oV [(0,t0),(15,.bool t15)] (n9 ?_)
  cases t15 with
  |true=>
   refine oT hF fun hF=>?_;refine oG fun n14=>W.r ?_;refine oA 2 AV.nilp ?_;refine oA 3 (.int .i64 40) ?_;refine oV [(2,AV.nilp),(3,.int .i64 40)] (n14 (oY (q8 ?_)));exact lZ hF [.tmp 2,.tmp 3] [AV.nilp,.int .i64 40] (rT (rT zc))
  |false=>
   refine oU hF fun hF=>?_;refine oZ (n8 ?_);refine oG fun n15=>W.r ?_;refine oA 16 t0 ?_;refine oCa hc 17 hF fun t17 h_16 hF=>?_;refine oA 18 t0 ?_;refine oCa hc 19 hF fun t19 h_19 hF=>?_;obtain⟨t20,e22,hF⟩:=z4 hF;refine WL.val (d:=(some 20)) (v:=.agg t20) (h':=h_19) (by kernel_rfl) (by kernel_rfl) (z1ac (by kernel_rfl) e22) ?_;refine oN 4 hF fun h_23 hF=>?_;refine oW 87 (.agg t20) hF fun h_25 hF=>?_;refine oV [(0,t0),(4,(z1a h_19))] (n15 ?_);refine oG fun n27=>W.r ?_;refine oA 21 t0 ?_;refine oA 22 (.agg ([.int .i64 0,.int .i64 (-1)]:List AV)) ?_;obtain⟨t23,e28,hF⟩:=z4 hF;refine WL.val (d:=(some 23)) (v:=.agg t23) (h':=h_25) (by kernel_rfl) (by kernel_rfl) (z1ac (by kernel_rfl) e28) ?_;obtain⟨t24,e29,hF⟩:=z4 hF;refine WL.val (d:=(some 24)) (v:=.agg t24) (h':=h_25) (by kernel_rfl) (by kernel_rfl) (z1ac (by kernel_rfl) e29) ?_;refine oK 25 hF fun v25 h_30 hF=>?_;refine oA 5 v25 ?_;refine oV [(0,t0),(4,(z1a h_19)),(5,v25)] (n27 ?_);refine W.s (fun K32 n32 e32 q32 p32=>?_);refine oG fun n33=>W.r ?_;refine oR 26 87 hF fun t26 hF=>?_;refine oA 27 (.int .i64 0) ?_;refine oV [(0,t0),(5,v25),(26,.agg t26),(27,.int .i64 0)] (n33 ?_);obtain⟨k36,e36,hF⟩:=z7 hF
   have J36:∀(h_37:AHeap),k36 h_37=some (rR,hR)→Go w0 m0 (Func.ntmps Try.f10) (K32 .normal) [(5,v25)] [] h_37:=by
    intro h_37 hF;rw[e36] at hF;refine n32 ?_;refine oG fun n38=>W.r ?_;refine oA 71 v25 ?_;refine oA 2 v25 ?_;refine oA 3 (.int .i64 0) ?_;refine oV [(2,v25),(3,.int .i64 0)] (n38 (oY ?_));exact lZ hF [.tmp 2,.tmp 3] [v25,.int .i64 0] (rT (rT zc))
   refine W.blockK (by kernel_rfl) (fun K35 n35 s35 o35 q35 p35=>?_);refine W.loopK (by kernel_rfl) (fun I39 K39 b39 n39 e39 q39 p39=>?_)
   have L39:∀(m:Nat) (t27:Int) (h_40:AHeap),z66 call n t0 v25 t26 k36 m t27 h_40=some (rR,hR)→Go w0 m0 (Func.ntmps Try.f10) I39 [(0,t0),(5,v25),(26,.agg t26),(27,.int .i64 t27)] [] h_40:=by
    intro m
    induction m with
    |zero=>intro t27 h_40 hF;cases hF
    |succ m ih39=>
     intro t27 h_40 hF;rw[z165] at hF;unfold zfc at hF;refine b39 ?_;refine oG fun n41=>W.r ?_;refine oB 28 hF fun t28 hF=>?_;refine oV [(0,t0),(5,v25),(26,.agg t26),(27,.int .i64 t27),(28,.bool t28)] (n41 ?_);refine W.s (fun K43 n43 e43 q43 p43=>?_)
     cases t28 with
     |true=>
      refine oT hF fun hF=>?_;refine oZ (n43 ?_);refine oH fun n44 q44=>?_;refine W.blockK (by kernel_rfl) (fun K45 n45 s45 o45 q45 p45=>?_);refine oG fun n46=>W.r ?_;refine oA 29 (.int .i64 t27) ?_
      replace hF:=z26 hF;obtain⟨v30,h_47,e48,hF⟩:=hF
      replace hF:=z4 hF;obtain⟨t30,c49,hF⟩:=hF
      have c49:=zb9 c49;subst c49;refine WL.b (some 30) (.agg t30) h_47 e48 ?_;refine oN 7 hF fun h_50 hF=>?_;refine oA 6 (.int .i64 t27) ?_;refine oW 85 (.agg t30) hF fun h_52 hF=>?_;refine oV [(0,t0),(5,v25),(6,.int .i64 t27),(7,(z1a h_47)),(26,.agg t26),(27,.int .i64 t27)] (n46 ?_);refine oH fun n54 q54=>?_;refine oG fun n55=>W.r ?_;refine oR 31 85 hF fun t31 hF=>?_;refine oA 32 t0 ?_;refine oA 33 (.int .i64 t27) ?_;refine oCi hc 34 hF fun t34 h_57 hF=>?_;refine oA 8 (.int .i64 t34) ?_;refine oV [(0,t0),(5,v25),(6,.int .i64 t27),(7,(z1a h_47)),(8,.int .i64 t34),(26,.agg t26),(27,.int .i64 t27)] (n55 ?_);refine oG fun n60=>W.r ?_;refine oA 35 (.int .i64 t34) ?_;refine oB 36 hF fun t36 hF=>?_;refine oV [(0,t0),(5,v25),(6,.int .i64 t27),(7,(z1a h_47)),(8,.int .i64 t34),(26,.agg t26),(27,.int .i64 t27),(36,.bool t36)] (n60 ?_)
      cases t36 with
      |true=>
       refine oT hF fun hF=>?_;refine oG fun n62=>W.r ?_;refine oA 37 (.int .i64 t34) ?_;refine oA 2 AV.nilp ?_;refine oA 3 (.int .i64 t34) ?_;refine oV [(2,AV.nilp),(3,.int .i64 t34)] (n62 (oY (q54 (q45 (q44 (q39 (q35 (q32 ?_))))))));exact lZ hF [.tmp 2,.tmp 3] [AV.nilp,.int .i64 t34] (rT (rT zc))
      |false=>
       refine oU hF fun hF=>?_;refine oZ (n54 ?_);refine oG fun n63=>?_;refine y12 (by kernel_rfl) (hc.ok w0) (plan:=[0,1,2,3,4,5,6,7,8]) (by kernel_rfl) (by kernel_rfl) (by kernel_rfl) ?_;refine WD.a 0 (some 38) v25 h_57 ?_;refine WD.a 0 (some 39) (.int .i64 t27) h_57 ?_;refine WD.a 0 (some 40) (AV.ptr (AHeap.next h_47) 0) h_57 ?_;obtain⟨v41,e64,hF⟩:=z4 hF;refine WD.b 1 (some 41) v41 h_57 (z12 (P:=Try.prog) (h:=h_57) (t:=83) (by kernel_rfl) e64) ?_;obtain⟨t42,e65,hF⟩:=z4 hF;refine WD.b 0 (some 42) (.int .i64 t42) h_57 (z3ed (P:=Try.prog) (h:=h_57) (t:=83) (e':=89) (by kernel_rfl) e65) ?_;obtain⟨t43,e66,hF⟩:=z4 hF;refine WD.b 0 (some 43) t43 h_57 (z1f (h:=h_57) e66) ?_;obtain⟨t44,e67,hF⟩:=z4 hF;refine WD.b 0 (some 44) t44 h_57 (z10 (P:=Try.prog) (h:=h_57) (s:=92) (f:=1) (by kernel_rfl) e67) ?_;obtain⟨t45,e68,hF⟩:=z4 hF;refine WD.b 0 (some 45) t45 h_57 (z99 (P:=Try.prog) (h:=h_57) (t:=90) (e':=3) (k:=.i64) (by kernel_rfl) (by kernel_rfl) (by kernel_rfl) e68) ?_;obtain⟨h_69,e70,hF⟩:=z4 hF;refine WD.eff (h':=h_69) (by kernel_rfl) (by kernel_rfl) (Eq.trans (by kernel_rfl) (z2c (P:=Try.prog) (h:=h_57) (t:=3) (v:=(.int .i64 t42)) (by kernel_rfl) (by kernel_rfl) e70)) (k:=2) (by kernel_rfl) (fun _=>(by kernel_rfl)) (by decide) ?_;refine WD.nil ?_;refine gW [(0,t0),(5,v25),(6,.int .i64 t27),(7,(z1a h_47)),(26,.agg t26),(27,.int .i64 t27)] (n63 ?_);refine oG fun n71=>W.r ?_;refine oA 46 (AV.ptr (AHeap.next h_47) 0) ?_;refine oL 47 83 hF fun v47 hF=>?_;refine oM 48 83 89 hF fun t48 hF=>?_;refine oA 49 (.int .i64 0) ?_;refine oV [(0,t0),(5,v25),(6,.int .i64 t27),(26,.agg t26),(27,.int .i64 t27),(47,v47),(48,.int .i64 t48),(49,.int .i64 0)] (n71 ?_);obtain⟨k75,e75,hF⟩:=z7 hF
       have J75:∀(h_76:AHeap),k75 h_76=some (rR,hR)→Go w0 m0 (Func.ntmps Try.f10) (K45 .normal) [(0,t0),(5,v25),(26,.agg t26),(27,.int .i64 t27)] [] h_76:=by
        intro h_76 hF;rw[e75] at hF;refine n45 (n44 (W.r ?_));refine oI 70 .i64 hF fun t70 hF=>?_;refine oA 27 (.int .i64 t70) ?_;refine oV [(0,t0),(5,v25),(26,.agg t26),(27,.int .i64 t70)] (n39 ?_);exact gW _ (ih39 _ _ hF)
       refine W.blockK (by kernel_rfl) (fun K74 n74 s74 o74 q74 p74=>?_);refine W.loopK (by kernel_rfl) (fun I78 K78 b78 n78 e78 q78 p78=>?_)
       have L78:∀(m:Nat) (t49:Int) (h_79:AHeap),z126 v25 t27 v47 t48 k75 m t49 h_79=some (rR,hR)→Go w0 m0 (Func.ntmps Try.f10) I78 [(0,t0),(5,v25),(6,.int .i64 t27),(26,.agg t26),(27,.int .i64 t27),(47,v47),(48,.int .i64 t48),(49,.int .i64 t49)] [] h_79:=by
        intro m
        induction m with
        |zero=>intro t49 h_79 hF;cases hF
        |succ m ih78=>
         intro t49 h_79 hF;rw[z164] at hF;unfold zfb at hF;refine b78 ?_;refine oG fun n80=>W.r ?_;refine oB 50 hF fun t50 hF=>?_;refine oV [(0,t0),(5,v25),(6,.int .i64 t27),(26,.agg t26),(27,.int .i64 t27),(47,v47),(48,.int .i64 t48),(49,.int .i64 t49),(50,.bool t50)] (n80 ?_);refine W.s (fun K82 n82 e82 q82 p82=>?_)
         cases t50 with
         |true=>
          refine oT hF fun hF=>?_;refine oZ (n82 ?_);refine oG fun n83=>?_;refine W.blockK (by kernel_rfl) (fun K84 n84 s84 o84 q84 p84=>?_);refine oG fun n85=>W.r ?_;refine oP 51 83 89 .i64 hF fun t51 hF=>?_;refine oR 52 89 hF fun t52 hF=>?_;refine oN 10 hF fun h_88 hF=>?_;refine oW 89 (.agg t52) hF fun h_90 hF=>?_;refine oV [(0,t0),(5,v25),(6,.int .i64 t27),(10,(z1a h_79)),(26,.agg t26),(27,.int .i64 t27),(47,v47),(48,.int .i64 t48),(49,.int .i64 t49)] (n85 ?_);refine oG fun n92=>?_;refine y12 (by kernel_rfl) (hc.ok w0) (plan:=[0,1,2,3,4,5,6,7]) (by kernel_rfl) (by kernel_rfl) (by kernel_rfl) ?_;refine WD.a 0 (some 53) (AV.ptr (AHeap.next h_79) 0) h_90 ?_
          replace hF:=z4 hF;obtain⟨v54,e93,hF⟩:=hF
          replace hF:=z4 hF;obtain⟨t54,c94,hF⟩:=hF
          have c94:=z15 c94;subst c94;refine WD.b 1 (some 54) (.int .i64 t54) h_90 (z12 (P:=Try.prog) (h:=h_90) (t:=3) (by kernel_rfl) e93) ?_;refine WD.a 0 (some 55) v25 h_90 ?_;obtain⟨t56,e95,hF⟩:=z4 hF;refine WD.b 0 (some 56) t56 h_90 (z1f (h:=h_90) e95) ?_;obtain⟨t57,e96,hF⟩:=z4 hF;refine WD.b 0 (some 57) t57 h_90 (z10 (P:=Try.prog) (h:=h_90) (s:=92) (f:=2) (by kernel_rfl) e96) ?_;obtain⟨t58,e97,hF⟩:=z4 hF;refine WD.b 0 (some 58) t58 h_90 (z10 (P:=Try.prog) (h:=h_90) (s:=89) (f:=0) (by kernel_rfl) e97) ?_
          replace hF:=z4 hF;obtain⟨v59,e98,hF⟩:=hF
          replace hF:=z4 hF;obtain⟨t59,c99,hF⟩:=hF
          have c99:=z15 c99;subst c99;refine WD.b 1 (some 59) (.int .i64 t59) h_90 (z12 (P:=Try.prog) (h:=h_90) (t:=3) (by kernel_rfl) e98) ?_;obtain⟨t60,e100,hF⟩:=z7 hF;refine WD.val (d:=(some 60)) (v:=.bool t60) (h':=h_90) (by kernel_rfl) (by kernel_rfl) (z2a AV.bool e100 (by kernel_rfl)) (k:=0) (by kernel_rfl) (fun e=>absurd e (by decide)) (by decide) ?_;refine WD.nil ?_;refine gW [(0,t0),(5,v25),(6,.int .i64 t27),(10,(z1a h_79)),(26,.agg t26),(27,.int .i64 t27),(47,v47),(48,.int .i64 t48),(49,.int .i64 t49),(60,.bool t60)] (n92 ?_);obtain⟨k101,e101,hF⟩:=z7 hF
          have J101:∀(h_102:AHeap),k101 h_102=some (rR,hR)→Go w0 m0 (Func.ntmps Try.f10) (K84 .normal) [(0,t0),(5,v25),(6,.int .i64 t27),(26,.agg t26),(27,.int .i64 t27),(47,v47),(48,.int .i64 t48),(49,.int .i64 t49)] [] h_102:=by
           intro h_102 hF;rw[e101] at hF;refine n84 (n83 (W.r ?_));refine oI 69 .i64 hF fun t69 hF=>?_;refine oA 49 (.int .i64 t69) ?_;refine oV [(0,t0),(5,v25),(6,.int .i64 t27),(26,.agg t26),(27,.int .i64 t27),(47,v47),(48,.int .i64 t48),(49,.int .i64 t69)] (n78 ?_);exact gW _ (ih78 _ _ hF)
          cases t60 with
          |true=>
           refine oT hF fun hF=>?_;refine W.r ?_;refine oA 61 v25 ?_;refine oA 62 v25 ?_;refine oR 63 89 hF fun t63 hF=>?_;refine oA 64 (.int .i64 t27) ?_;refine oC0 65 hF fun t65 hF=>?_;refine oF 66 92 2 hF fun t66 hF=>?_;refine oW 89 (.agg t63) hF fun h_107 hF=>?_;refine oC0 67 hF fun t67 hF=>?_;refine oF 68 92 3 hF fun t68 hF=>?_;refine oW 3 (.int .i64 t27) hF fun h_111 hF=>?_;refine oV [(0,t0),(5,v25),(6,.int .i64 t27),(26,.agg t26),(27,.int .i64 t27),(47,v47),(48,.int .i64 t48),(49,.int .i64 t49)] ?_;exact gW _ (J101 _ hF)
          |false=>
           refine oU hF fun hF=>?_;refine oZ ?_;exact gW _ (J101 _ hF)
         |false=>
          refine oU hF fun hF=>?_;refine W.exit (by kernel_rfl) ?_;refine e82 (e78 ?_);refine s74 (by kernel_rfl) ?_;exact gW _ (J75 _ hF)
       exact gW _ (L78 _ _ _ hF)
     |false=>
      refine oU hF fun hF=>?_;refine W.exit (by kernel_rfl) ?_;refine e43 (e39 ?_);refine s35 (by kernel_rfl) ?_;exact gW _ (J36 _ hF)
   exact gW _ (L39 _ _ _ hF)
noncomputable def zea(call:z11)(_:Nat)(h:AHeap):R:=callN (call 9 [] h) fun r4 h_3=>callN (call 10 [r4] h_3) fun r7 h_6=>obind (z160 0 r7) fun v8=>obind (z160 1 r7) fun v9=>obind (z17 .i64 v9) fun t9=>lett ((t9:Int) != 0) fun (t11:Bool)=>lett (fun (t15:Bool) (h_14:AHeap)=>lett (fun (t21:Bool) (h_17:AHeap)=>lett (fun (t27:Bool) (h_20:AHeap)=>lett (fun (t32:Bool) (h_23:AHeap)=>ifB t32 (some (.ret (.bool false),h_23)) (callN (call 10 [r4] h_23) fun r35 h_28=>obind (z160 0 r35) fun v36=>obind (z160 1 r35) fun v37=>obind (z17 .i64 v37) fun t37=>lett ((t37:Int) == 0) fun (t39:Bool)=>lett (fun (t43:Bool) (h_35:AHeap)=>lett (fun (t49:Bool) (h_38:AHeap)=>some (.ret (.bool t49),h_38)) fun j49=>ifB t43 (callN (call 16 [v36] h_35) fun r46 h_41=>obind (z132 r46) fun t46=>obind (zc7 Try.prog 31 (.agg t46) (.agg ([.int .i64 1,.int .i64 2]:List AV))) fun t48=>j49 t48 h_41) (j49 false h_35)) fun j43=>ifB t39 (outK (z65 Try.prog h_28 .neq 25 true (some v36) (some AV.nilp)) fun v42 h_45=>obind (z2f v42) fun t42=>j43 t42 h_45) (j43 false h_28))) fun j32=>ifB t27 (j32 true h_20) (callN (call 15 [r4,AV.nsl,.int .i64 0] h_20) fun r30 h_48=>obind (z17 .i64 r30) fun t30=>lett ((t30:Int) != 0) fun (t31:Bool)=>j32 t31 h_48)) fun j27=>ifB t21 (j27 true h_17) (callN (call 11 [v8,.agg ([.int .i64 1,.int .i64 2]:List AV)] h_17) fun r25 h_52=>obind (z17 .i64 r25) fun t25=>lett ((t25:Int) != 0) fun (t26:Bool)=>j27 t26 h_52)) fun j21=>ifB t15 (j21 true h_14) (callN (call 16 [v8] h_14) fun r18 h_56=>obind (z132 r18) fun t18=>obind (zc7 Try.prog 31 (.agg t18) (.agg ([.int .i64 0,.int .i64 (-1)]:List AV))) fun t20=>lett (!t20) fun (t20_60:Bool)=>j21 t20_60 h_56)) fun j15=>ifB t11 (j15 true h_6) (outK (z65 Try.prog h_6 .eql 25 true (some v8) (some AV.nilp)) fun v14 h_62=>obind (z2f v14) fun t14=>j15 t14 h_62)
set_option maxHeartbeats 4000000 in
set_option maxRecDepth 20000 in
theorem z2f6{call:z11}(hc:SaysAll Try.prog call){n:Nat}{h:AHeap}{rR:ARes}{hR:AHeap}(hF:zea call n h=some (rR,hR)):Says Try.prog 8 [] h rR hR:=by
 unfold zea at hF;refine sO Try.func8 fun w0 m0=>?_;refine wW [] ?_;refine oG fun n1=>W.r ?_;refine oA 0 (.bool false) ?_;refine oV [] (n1 ?_);refine oG fun n2=>W.r ?_;refine oC hc (some 4) hF fun r4 h_3 hF=>?_;refine oA 1 r4 ?_;refine oV [(1,r4)] (n2 ?_);refine oG fun n5=>W.r ?_;refine oA 6 r4 ?_;refine oC hc (some 7) hF fun r7 h_6 hF=>?_;refine oA 5 r7 ?_;refine oE 8 hF fun v8 hF=>?_;refine oEi 9 hF fun t9 hF=>?_;refine oA 2 v8 ?_;refine oA 3 (.int .i64 t9) ?_;refine oV [(1,r4),(2,v8),(3,.int .i64 t9)] (n5 ?_);refine oH fun n11 q11=>?_;refine W.s (fun K12 n12 e12 q12 p12=>?_);refine W.r ?_;refine oA 10 (.int .i64 t9) ?_;refine oB 11 hF fun t11 hF=>?_;refine oA 12 (.bool t11) ?_;obtain⟨j15,e15,hF⟩:=z7 hF
 have J16:∀(t15:Bool) (h_14:AHeap),j15 t15 h_14=some (rR,hR)→WL Try.prog w0 m0 (Func.ntmps Try.f8) (Code.ops (y6 (y6 (y4 (y4 (y4 (z3d Try.f8))))))) 6 K12 [(1,r4),(2,v8),(15,.bool t15)] [] h_14:=by
  intro t15 h_14 hF;rw[e15] at hF;refine oA 16 (.bool t15) ?_;obtain⟨j21,e18,hF⟩:=z7 hF
  have J19:∀(t21:Bool) (h_17:AHeap),j21 t21 h_17=some (rR,hR)→WL Try.prog w0 m0 (Func.ntmps Try.f8) (Code.ops (y6 (y6 (y4 (y4 (y4 (z3d Try.f8))))))) 12 K12 [(1,r4),(2,v8),(21,.bool t21)] [] h_17:=by
   intro t21 h_17 hF;rw[e18] at hF;refine oA 22 (.bool t21) ?_;obtain⟨j27,e21,hF⟩:=z7 hF
   have J22:∀(t27:Bool) (h_20:AHeap),j27 t27 h_20=some (rR,hR)→WL Try.prog w0 m0 (Func.ntmps Try.f8) (Code.ops (y6 (y6 (y4 (y4 (y4 (z3d Try.f8))))))) 18 K12 [(1,r4),(27,.bool t27)] [] h_20:=by
    intro t27 h_20 hF;rw[e21] at hF;refine oA 28 (.bool t27) ?_;obtain⟨j32,e24,hF⟩:=z7 hF
    have J25:∀(t32:Bool) (h_23:AHeap),j32 t32 h_23=some (rR,hR)→WL Try.prog w0 m0 (Func.ntmps Try.f8) (Code.ops (y6 (y6 (y4 (y4 (y4 (z3d Try.f8))))))) 23 K12 [(1,r4),(32,.bool t32)] [] h_23:=by
     intro t32 h_23 hF;rw[e24] at hF;refine oV [(1,r4),(32,.bool t32)] (n12 ?_)
     cases t32 with
     |true=>
      refine oT hF fun hF=>?_;refine oG fun n26=>W.r ?_;refine oA 0 (.bool false) ?_;refine oV [(0,.bool false)] (n26 (oY (q11 ?_)));exact lZ hF [.tmp 0] [.bool false] (rT zc)
     |false=>
      refine oU hF fun hF=>?_;refine oZ (n11 ?_);refine oG fun n27=>W.r ?_;refine oA 34 r4 ?_;refine oC hc (some 35) hF fun r35 h_28 hF=>?_;refine oA 33 r35 ?_;refine oE 36 hF fun v36 hF=>?_;refine oEi 37 hF fun t37 hF=>?_;refine oA 2 v36 ?_;refine oA 3 (.int .i64 t37) ?_;refine oV [(2,v36),(3,.int .i64 t37)] (n27 ?_);refine W.s (fun K33 n33 e33 q33 p33=>?_);refine W.r ?_;refine oA 38 (.int .i64 t37) ?_;refine oB 39 hF fun t39 hF=>?_;refine oA 40 (.bool t39) ?_;obtain⟨j43,e36,hF⟩:=z7 hF
      have J37:∀(t43:Bool) (h_35:AHeap),j43 t43 h_35=some (rR,hR)→WL Try.prog w0 m0 (Func.ntmps Try.f8) (Code.ops (y6 (y4 (y4 (y4 (y4 (y4 (z3d Try.f8)))))))) 6 K33 [(2,v36),(43,.bool t43)] [] h_35:=by
       intro t43 h_35 hF;rw[e36] at hF;refine oA 44 (.bool t43) ?_;obtain⟨j49,e39,hF⟩:=z7 hF
       have J40:∀(t49:Bool) (h_38:AHeap),j49 t49 h_38=some (rR,hR)→WL Try.prog w0 m0 (Func.ntmps Try.f8) (Code.ops (y6 (y4 (y4 (y4 (y4 (y4 (z3d Try.f8)))))))) 12 K33 [(49,.bool t49)] [] h_38:=by
        intro t49 h_38 hF;rw[e39] at hF;refine oA 0 (.bool t49) ?_;refine oV [(0,.bool t49)] (n33 (oY ?_));exact lZ hF [.tmp 0] [.bool t49] (rT zc)
       cases t43 with
       |true=>
        replace hF:=z53 hF
        refine oA 45 v36 ?_;refine oCa hc 46 hF fun t46 h_41 hF=>?_;refine oA 47 (.agg ([.int .i64 1,.int .i64 2]:List AV)) ?_;obtain⟨t48,e44,hF⟩:=z4 hF;refine WL.b (some 48) (.bool t48) h_41 (z35e (P:=Try.prog) (h:=h_41) (t:=31) (lit:=false) (by kernel_rfl) e44) ?_;refine oA 49 (.bool t48) ?_;exact lW _ (J40 _ _ hF)
       |false=>
        replace hF:=z54 hF
        refine WL.o (some 45) ?_;refine WL.o (some 46) ?_;refine WL.o (some 47) ?_;refine WL.o (some 48) ?_;refine oA 49 (.bool false) ?_;exact lW _ (J40 _ _ hF)
      cases t39 with
      |true=>
       replace hF:=z53 hF
       refine oA 41 v36 ?_
       replace hF:=z26 hF;obtain⟨v42,h_45,e46,hF⟩:=hF
       replace hF:=z4 hF;obtain⟨t42,c47,hF⟩:=hF
       have c47:=z1e c47;subst c47;refine WL.b (some 42) (.bool t42) h_45 e46 ?_;refine oA 43 (.bool t42) ?_;exact lW _ (J37 _ _ hF)
      |false=>
       replace hF:=z54 hF
       refine WL.o (some 41) ?_;refine WL.o (some 42) ?_;refine oA 43 (.bool false) ?_;exact lW _ (J37 _ _ hF)
    cases t27 with
    |true=>
     replace hF:=z53 hF
     refine WL.o (some 29) ?_;refine WL.o (some 30) ?_;refine WL.o (some 31) ?_;refine oA 32 (.bool true) ?_;exact lW _ (J25 _ _ hF)
    |false=>
     replace hF:=z54 hF
     refine oA 29 r4 ?_;refine oCi hc 30 hF fun t30 h_48 hF=>?_;refine oB 31 hF fun t31 hF=>?_;refine oA 32 (.bool t31) ?_;exact lW _ (J25 _ _ hF)
   cases t21 with
   |true=>
    replace hF:=z53 hF
    refine WL.o (some 23) ?_;refine WL.o (some 24) ?_;refine WL.o (some 25) ?_;refine WL.o (some 26) ?_;refine oA 27 (.bool true) ?_;exact lW _ (J22 _ _ hF)
   |false=>
    replace hF:=z54 hF
    refine oA 23 v8 ?_;refine oA 24 (.agg ([.int .i64 1,.int .i64 2]:List AV)) ?_;refine oCi hc 25 hF fun t25 h_52 hF=>?_;refine oB 26 hF fun t26 hF=>?_;refine oA 27 (.bool t26) ?_;exact lW _ (J22 _ _ hF)
  cases t15 with
  |true=>
   replace hF:=z53 hF
   refine WL.o (some 17) ?_;refine WL.o (some 18) ?_;refine WL.o (some 19) ?_;refine WL.o (some 20) ?_;refine oA 21 (.bool true) ?_;exact lW _ (J19 _ _ hF)
  |false=>
   replace hF:=z54 hF
   refine oA 17 v8 ?_;refine oCa hc 18 hF fun t18 h_56 hF=>?_;refine oA 19 (.agg ([.int .i64 0,.int .i64 (-1)]:List AV)) ?_;obtain⟨t20,e59,hF⟩:=z4 hF;obtain⟨t20_60,e61,hF⟩:=z7 hF;refine WL.val (d:=(some 20)) (v:=.bool t20_60) (h':=h_56) (by kernel_rfl) (by kernel_rfl) (z2a AV.bool e61 (Eq.trans (by kernel_rfl) (z3a2 (P:=Try.prog) (h:=h_56) (t:=31) (lit:=false) (by kernel_rfl) e59))) ?_;refine oA 21 (.bool t20_60) ?_;exact lW _ (J19 _ _ hF)
 cases t11 with
 |true=>
  replace hF:=z53 hF
  refine WL.o (some 13) ?_;refine WL.o (some 14) ?_;refine oA 15 (.bool true) ?_;exact lW _ (J16 _ _ hF)
 |false=>
  replace hF:=z54 hF
  refine oA 13 v8 ?_
  replace hF:=z26 hF;obtain⟨v14,h_62,e63,hF⟩:=hF
  replace hF:=z4 hF;obtain⟨t14,c64,hF⟩:=hF
  have c64:=z1e c64;subst c64;refine WL.b (some 14) (.bool t14) h_62 e63 ?_;refine oA 15 (.bool t14) ?_;exact lW _ (J16 _ _ hF)
noncomputable def zc5(t0:AV)(t7:Int)(k7:AHeap→R)(self:Int→Int→AHeap→R)(t3:Int)(t8:Int)(h_13:AHeap):R:=lett (decide (t8<t7)) fun (t9:Bool)=>ifB t9 (obind (z18d 6 t0 t8) fun t10=>obind (z2b h_13 6 t10) fun t11=>lett (newH h_13 49 [.int .i64 0,.int .i64 0,.int .i64 0,.int .i64 0,.str 0 0,.nsl]) fun h_22=>obind (z27 h_22 6 t11 (z1a h_13)) fun h_24=>obind (z9 h_24 (AV.ptr (AHeap.next h_13) 4)) fun v13=>obind (z31 v13) fun t13=>lett (IntKind.i64.wrap (4096 - t3)) fun (t16:Int)=>lett (decide ((z7e t13)>t16)) fun (t17:Bool)=>ifB t17 (some (.ret (.bool true),h_24)) (obind (z9 h_24 (AV.ptr (AHeap.next h_13) 4)) fun v20=>obind (z31 v20) fun t20=>lett (IntKind.i64.wrap (t3+(z7e t20))) fun (t22:Int)=>lett (IntKind.i64.wrap (t8+1)) fun (t23:Int)=>self t22 t23 h_24)) (k7 h_13)
noncomputable def ze1(t0:AV)(t7:Int)(k7:AHeap→R):Nat→Int→Int→AHeap→R:=z130 (fun _ _ _=>none) (zc5 t0 t7 k7)
theorem z12f(t0:AV)(t7:Int)(k7:AHeap→R)(m:Nat):ze1 t0 t7 k7 (m+1)=zc5 t0 t7 k7 (ze1 t0 t7 k7 m):=rfl
noncomputable def zeb(_:z11)(n:Nat)(t0:AV)(h:AHeap):R:=obind (z197 t0) fun t7=>lett (fun (h_8:AHeap)=>obind (z197 t0) fun t25=>lett (decide (t25>100)) fun (t26:Bool)=>some (.ret (.bool t26),h_8)) fun k7=>ze1 t0 t7 k7 n 0 0 h
set_option maxHeartbeats 4000000 in
set_option maxRecDepth 20000 in
theorem z2f7{call:z11}(_:SaysAll Try.prog call){n:Nat}{t0:AV}{h:AHeap}{rR:ARes}{hR:AHeap}(hF:zeb call n t0 h=some (rR,hR)):Says Try.prog 19 [t0] h rR hR:=by
 unfold zeb at hF;refine sO Try.func19 fun w0 m0=>?_;refine wW [(0,t0)] ?_;refine oG fun n1=>W.r ?_;refine oA 2 (.bool false) ?_;refine oV [(0,t0)] (n1 ?_);refine oG fun n2=>W.r ?_;refine oA 3 (.int .i64 0) ?_;refine oV [(0,t0),(3,.int .i64 0)] (n2 ?_);refine W.s (fun K3 n3 e3 q3 p3=>?_);refine oG fun n4=>W.r ?_;refine oA 6 t0 ?_;refine oM 7 41 49 hF fun t7 hF=>?_;refine oA 8 (.int .i64 0) ?_;refine oV [(0,t0),(3,.int .i64 0),(6,t0),(7,.int .i64 t7),(8,.int .i64 0)] (n4 ?_);obtain⟨k7,e7,hF⟩:=z7 hF
 have J7:∀(h_8:AHeap),k7 h_8=some (rR,hR)→Go w0 m0 (Func.ntmps Try.f19) (K3 .normal) [(0,t0)] [] h_8:=by
  intro h_8 hF;rw[e7] at hF;refine n3 ?_;refine oG fun n9=>W.r ?_;refine oA 24 t0 ?_;refine oM 25 41 49 hF fun t25 hF=>?_;refine oB 26 hF fun t26 hF=>?_;refine oA 2 (.bool t26) ?_;refine oV [(2,.bool t26)] (n9 (oY ?_));exact lZ hF [.tmp 2] [.bool t26] (rT zc)
 refine W.blockK (by kernel_rfl) (fun K6 n6 s6 o6 q6 p6=>?_);refine W.loopK (by kernel_rfl) (fun I12 K12 b12 n12 e12 q12 p12=>?_)
 have L12:∀(m:Nat) (t3:Int) (t8:Int) (h_13:AHeap),ze1 t0 t7 k7 m t3 t8 h_13=some (rR,hR)→Go w0 m0 (Func.ntmps Try.f19) I12 [(0,t0),(3,.int .i64 t3),(6,t0),(7,.int .i64 t7),(8,.int .i64 t8)] [] h_13:=by
  intro m
  induction m with
  |zero=>intro t3 t8 h_13 hF;cases hF
  |succ m ih12=>
   intro t3 t8 h_13 hF;rw[z12f] at hF;unfold zc5 at hF;refine b12 ?_;refine oG fun n14=>W.r ?_;refine oB 9 hF fun t9 hF=>?_;refine oV [(0,t0),(3,.int .i64 t3),(6,t0),(7,.int .i64 t7),(8,.int .i64 t8),(9,.bool t9)] (n14 ?_);refine W.s (fun K16 n16 e16 q16 p16=>?_)
   cases t9 with
   |true=>
    refine oT hF fun hF=>?_;refine oZ (n16 ?_);refine oH fun n17 q17=>?_;refine W.blockK (by kernel_rfl) (fun K18 n18 s18 o18 q18 p18=>?_);refine oG fun n19=>W.r ?_;refine oP 10 41 49 .i64 hF fun t10 hF=>?_;refine oR 11 49 hF fun t11 hF=>?_;refine oN 5 hF fun h_22 hF=>?_;refine oW 49 (.agg t11) hF fun h_24 hF=>?_;refine oV [(0,t0),(3,.int .i64 t3),(5,(z1a h_13)),(6,t0),(7,.int .i64 t7),(8,.int .i64 t8)] (n19 ?_);refine oH fun n26 q26=>?_;refine oG fun n27=>W.r ?_;refine oA 12 (AV.ptr (AHeap.next h_13) 4) ?_;refine oLs 13 9 hF fun t13 hF=>?_;refine oA 14 (.int .i64 (z7e t13)) ?_;refine oA 15 (.int .i64 t3) ?_;refine oI 16 .i64 hF fun t16 hF=>?_;refine oB 17 hF fun t17 hF=>?_;refine oV [(0,t0),(3,.int .i64 t3),(5,(z1a h_13)),(6,t0),(7,.int .i64 t7),(8,.int .i64 t8),(17,.bool t17)] (n27 ?_)
    cases t17 with
    |true=>
     refine oT hF fun hF=>?_;refine oG fun n32=>W.r ?_;refine oA 2 (.bool true) ?_;refine oV [(2,.bool true)] (n32 (oY (q26 (q18 (q17 (q12 (q6 (q3 ?_))))))));exact lZ hF [.tmp 2] [.bool true] (rT zc)
    |false=>
     refine oU hF fun hF=>?_;refine oZ (n26 (W.r ?_));refine oA 18 (.int .i64 t3) ?_;refine oA 19 (AV.ptr (AHeap.next h_13) 4) ?_;refine oLs 20 9 hF fun t20 hF=>?_;refine oA 21 (.int .i64 (z7e t20)) ?_;refine oI 22 .i64 hF fun t22 hF=>?_;refine oA 3 (.int .i64 t22) ?_;refine oV [(0,t0),(3,.int .i64 t22),(6,t0),(7,.int .i64 t7),(8,.int .i64 t8)] (n18 (n17 (W.r ?_)));refine oI 23 .i64 hF fun t23 hF=>?_;refine oA 8 (.int .i64 t23) ?_;refine oV [(0,t0),(3,.int .i64 t22),(6,t0),(7,.int .i64 t7),(8,.int .i64 t23)] (n12 ?_);exact gW _ (ih12 _ _ _ hF)
   |false=>
    refine oU hF fun hF=>?_;refine W.exit (by kernel_rfl) ?_;refine e16 (e12 ?_);refine s6 (by kernel_rfl) ?_;exact gW _ (J7 _ hF)
 exact gW _ (L12 _ _ _ _ hF)
noncomputable def wLS(n:Nat):List LSite:=[z14 n]
theorem wLS_ok(n:Nat):∀s∈wLS n,s.ok Try.prog:=by
 intro s hs;unfold wLS at hs
 rcases List.mem_cons.1 hs with rfl|hs
 ·exact z2a3 n
 cases hs
theorem z28c(n:Nat)(st:LoopState)(j:AJump)(t:T AV)(D:Nat):z2f5 (wLS n) ⟨st,j,t,(z14 n).N,y1b (z14 n).c,y20 (z14 n).c,y1d (z14 n).c,D⟩=some (z14 n):=z4b1 rfl rfl rfl
noncomputable def wLT(n:Nat)(both:z46):List (FuncId×FnT):=[(68,ze3 both n),(29,z124 both n),(10,fn1 Dv (z14a (both false) n)),(8,fn0 (zea (both false) n)),(19,fn1 Dv (zeb (both false) n))]
theorem wLT_ok(n:Nat)(both:z46)(hc:BothAll Try.prog both):SaysAll Try.prog (z177 (wLT n both)):=zd (z260 hc n) (zd (z2a1 hc n) (zd (z23 Dv (z383 hc.says)) (zd (z2c8 (z2f6 hc.says)) (zd (z23 Dv (z2f7 hc.says)) (z32b)))))
noncomputable def wL(n D d:Nat):z46:=z301 (wLS n) (wLT n) (world n D) d
theorem wL_ok(n D d:Nat):BothAll Try.prog (wL n D d):=z47a (wLS_ok n) (wLT_ok n) (world_ok n D) d
theorem wL_r(n D d b:Nat)(args:List AV)(h:AHeap):wL n D (d+1) true b args h=z307 (wLS n) (wL n D d) b args h:=rfl
theorem z293(f:FuncId){n D d:Nat}{args:List AV}{h:AHeap}(hf:([68,29,10,8,19].all fun i=> !Nat.beq i f)=true:=by kernel_rfl):wL n D (d+1) false f args h=world n D f args h:=z3cc (z2d9 _ _ _ hf)
theorem z2ef(n D d:Nat)(t0:AV)(t1:AV){h:AHeap}{x:ARes×AHeap}(e:zec (wL n D d) n t0 t1 h=some x):wL n D (d+1) false 68 [t0,t1] h=some x:=
 z16d (Eq.trans (b:=ze3 (wL n D d) n [t0,t1] h) (by kernel_rfl) ((z261 (wL n D d) n t0 t1 h).trans e))
theorem z380(n D d:Nat)(t0:AV)(t1:Int){h:AHeap}{x:ARes×AHeap}(e:z125 (wL n D d) n t0 t1 h=some x):wL n D (d+1) false 29 [t0,.int .i64 t1] h=some x:=
 z16d (Eq.trans (b:=z124 (wL n D d) n [t0,.int .i64 t1] h) (by kernel_rfl) ((z2a2 (wL n D d) n t0 t1 h).trans e))
theorem z381(n D d:Nat)(t0:AV){h:AHeap}{x:ARes×AHeap}(e:z14a ((wL n D d) false) n t0 h=some x):wL n D (d+1) false 10 [t0] h=some x:=
 z16d (Eq.trans (b:=fn1 Dv (z14a ((wL n D d) false) n) [t0] h) (by kernel_rfl) ((z52 Dv _ t0 h).trans e))
theorem z2ed(n D d:Nat){h:AHeap}{x:ARes×AHeap}(e:zea ((wL n D d) false) n h=some x):wL n D (d+1) false 8 [] h=some x:=
 z16d (Eq.trans (b:=fn0 (zea ((wL n D d) false) n) [] h) (by kernel_rfl) ((fn0_eq _ h).trans e))
theorem z2ee(n D d:Nat)(t0:AV){h:AHeap}{x:ARes×AHeap}(e:zeb ((wL n D d) false) n t0 h=some x):wL n D (d+1) false 19 [t0] h=some x:=
 z16d (Eq.trans (b:=fn1 Dv (zeb ((wL n D d) false) n) [t0] h) (by kernel_rfl) ((z52 Dv _ t0 h).trans e))
end Go.Proofs.Yteecmjmglmpbpaa
namespace Go.Proofs.Yteecmjmglmpbpaa.Abs
noncomputable section
open Go.RowKit
def BuB(U8:TypeId)(h:AHeap)(b c:Nat)(buf:AV)(l:zf):Prop:=
 (buf=.nsl∧l=[]∧c=b)∨(buf=.sl c 0 l.length 1∧l≠[]∧c≠b∧c<h.next∧RowH h c U8 (z45 l))
def BldR(TB U8:TypeId)(h:AHeap)(b c:Nat)(l:zf):Prop:=
 ∃a buf,RowH h b TB [a,buf]∧b<h.next∧(a=.nilp∨a=.ptr b 0)∧BuB U8 h b c buf l
section
variable {P:Program}{TB U8:TypeId}{h h':AHeap}{b c:Nat}{buf:AV}{l:zf}{S:List Nat}
theorem BuB.one(k:BuB U8 h b c buf l):buf.one=true∧AV.cells buf=[buf]∧z197 buf=some (l.length:Int):=by
 rcases k with⟨rfl,rfl,_⟩|⟨rfl,_⟩<;>exact⟨rfl,rfl,rfl⟩
theorem BldR.new(TB U8:TypeId)(h:AHeap):BldR TB U8 (newH h TB [.nilp,.nsl]) h.next h.next []:=
 ⟨_,_,RowH.new h TB [.nilp,.nsl],Nat.lt_succ_self _,.inl rfl,.inl ⟨rfl,rfl,rfl⟩⟩
end
end
noncomputable section
open Go.RowKit
def z3ee:AV→Nat
 | .bool _=>0
 | .int _ _=>1
 | .str _ _=>2
 |_=>9
def kindT(P:Program)(t:TypeId):Nat:=match P.underlying t with
 |some .bool=>0
 |some (.int _)=>1
 |some .string=>2
 |_=>8
def z147(P:Program):List Field→List Nat→Nat→Bool
 |[],[],_=>true
 |f::fs,k::ks,o=>(f.name != "_")&&Nat.beq f.offset o&&Nat.beq (kindT P f.type) k&&z147 P fs ks (o+1)
 |_,_,_=>false
def z22c:AV→AV→Option Bool
 | .bool a,.bool b=>some (a == b)
 | .int k a,.int k' b=>if k=k' then some (a == b) else none
 | .str n a,.str m b=>some (Nat.beq n m&&Nat.beq a b)
 |_,_=>none
def eqL:List Nat→List AV→List AV→Option Bool
 |[],[],[]=>some true
 |k::ks,x::xs,y::ys=>if z3ee x=k then match z22c x y with
  |some true=>eqL ks xs ys
  |r=>r else none
 |_,_,_=>none
section
variable {P:Program}
theorem eqA_cell{d:Nat}{t:TypeId}{x y:AV}{b:Bool}(hk:z3ee x=kindT P t)(he:z22c x y=some b):eqA P (d+1) t x y=some b:=by
 unfold kindT at hk;unfold eqA;cases hu:P.underlying t with
 |none=>rw[hu] at hk;cases x<;>simp[z3ee] at hk
 |some u=>
  rw[hu] at hk
  cases u<;>cases x<;>simp[z3ee] at hk<;>cases y<;>simp[z22c] at he<;>simp_all
theorem z30e{t:TypeId}{l:List AV}{o:Nat}{x:AV}(hk:kindT P t<3)(hx:l[o]? =some x):z1ea P t l o=some x:=by
 unfold kindT at hk;unfold z1ea;cases hu:P.underlying t with
 |none=>rw[hu] at hk;simp at hk
 |some u=>
  rw[hu] at hk
  cases u<;>simp at hk<;>simp[z193,hu,z198,hx]
theorem kind_lt{x y:AV}{b:Bool}(he:z22c x y=some b):z3ee x<3:=by
 cases x<;>cases y<;>simp[z22c] at he<;>simp[z3ee]
theorem z22b:∀(fs:List Field) (ks:List Nat) (o d:Nat) (xs ys px py:List AV) (b:Bool),z147 P fs ks o=true→px.length=o→py.length=o→eqL ks xs ys=some b→fs.length<d→eqFields P (d+1) fs (px++xs) (py++ys)=some b
 |[],ks,o,d,xs,ys,px,py,b,hf,_,_,he,_=>by
  cases ks with
  |cons k ks=>simp[z147] at hf
  |nil=>
   cases xs<;>cases ys<;>simp[eqL] at he
   subst he;rfl
 |f::fs,ks,o,d,xs,ys,px,py,b,hf,hx,hy,he,hd=>by
  cases ks with
  |nil=>simp[z147] at hf
  |cons k ks=>
   cases xs with
   |nil=>simp[eqL] at he
   |cons x xs=>
    cases ys with
    |nil=>simp[eqL] at he
    |cons y ys=>
     simp only[z147,Bool.and_eq_true] at hf;obtain⟨⟨⟨h1,h2⟩,h3⟩,h4⟩:=hf;have h1:¬f.name= "_" :=by simpa using h1
     have h2:=Nat.eq_of_beq_eq_true h2;have h3:=Nat.eq_of_beq_eq_true h3;simp only[eqL] at he
     split at he
     ·rename_i hk
      have hlx:(px++x::xs)[o]? =some x:=by rw[List.getElem?_append_right (by omega),hx,Nat.sub_self];rfl
      have hly:(py++y::ys)[o]? =some y:=by rw[List.getElem?_append_right (by omega),hy,Nat.sub_self];rfl
      obtain⟨d',rfl⟩:∃d',d=d'+1:=⟨d - 1,by simp only[List.length_cons] at hd;omega⟩;cases hc:z22c x y with
      |none=>rw[hc] at he;cases he
      |some c=>
       have hk3:=kind_lt hc;rw[hc] at he;unfold eqFields;rw[if_neg h1,h2,z30e (by omega) hlx,z30e (by omega) hly]
       simp only
       rw[eqA_cell (d:=d') (by omega) hc]
       cases c with
       |false=>exact he
       |true=>
        simp only at he ⊢
        have:=z22b fs ks (o+1) d' xs ys (px++[x]) (py++[y]) b h4 (by simp[hx]) (by simp[hy]) he (by simp only[List.length_cons] at hd;omega)
        simpa using this
     ·cases he
def flatB(P:Program)(t:TypeId)(ks:List Nat):Bool:=(match P.underlying t with
 |some (.struct _)=>true
 |_=>false)&& !(P.eqGuardType P.depth t)&& !(P.stoodInHeld t)&&z147 P (P.fieldsOf t).toList ks 0&&Nat.blt (P.fieldsOf t).toList.length 1000
theorem eq_flat{t:TypeId}{ks:List Nat}{xs ys:List AV}{b:Bool}(hf:flatB P t ks=true)(he:eqL ks xs ys=some b):zc7 P t (.agg xs) (.agg ys)=some b:=by
 unfold flatB at hf;simp only[Bool.and_eq_true,Bool.not_eq_true'] at hf;obtain⟨⟨⟨⟨h1,h2⟩,h3⟩,h4⟩,h5⟩:=hf;have h5:(P.fieldsOf t).toList.length <1000:=Nat.le_of_ble_eq_true h5;unfold zc7;simp only[h2,Bool.false_eq_true,if_false];unfold eqA;cases hu:P.underlying t with
 |none=>rw[hu] at h1;cases h1
 |some u=>
  rw[hu] at h1
  cases u<;>simp at h1
  simp only[h3,Bool.false_eq_true,if_false];exact z22b _ ks 0 1998 xs ys [] [] b h4 rfl rfl he (by omega)
end
theorem z1bd(k:IntKind)(a b:Int):z22c (.int k a) (.int k b)=some (a == b):=by simp[z22c]
theorem z29a{k:Nat}{ks:List Nat}{x y:AV}{xs ys:List AV}{b c:Bool}(hk:z3ee x=k)(h1:z22c x y=some b)(h2:eqL ks xs ys=some c):eqL (k::ks) (x::xs) (y::ys)=some (b&&c):=by
 simp only[eqL,hk,if_true,h1]
 cases b with
 |true=>simpa using h2
 |false=>rfl
end
noncomputable section
open Go.RowKit
abbrev RowT:=Nat×TypeId×List AV
structure Mem (S:List Nat) (h0 h:AHeap) (rs:List RowT):Prop where
 row:∀x∈rs,RowH h x.1 x.2.1 x.2.2∧x.1<h.next∧(x.1∈S∨h0.next≤x.1)
 apart:(rs.map (·.1)).Nodup
 tch:Tch S h0 h
section
variable {S:List Nat}{h0 h h':AHeap}{xs ys rs:List RowT}{b o n:Nat}{e:TypeId}{l l' vs:List AV}{v:AV}{Q:ARes→AHeap→Prop}{K:AHeap→R}{x:R}{x0 x1 x2 x3 x4:RowT}
theorem Mem.nil(S:List Nat)(h:AHeap):Mem S h h []:=⟨by simp,by simp,Tch.refl _ _⟩
theorem Mem.one(k:RowH h b e l)(hb:b<h.next):Mem [b] h h [(b,e,l)]:=⟨by simpa using ⟨k,hb⟩,by simp,Tch.refl _ _⟩
theorem Mem.at(M:Mem S h0 h (xs++(b,e,l)::ys)):RowH h b e l∧b<h.next∧(b∈S∨h0.next≤b):=M.row (b,e,l) (by simp)
theorem Mem.upd(M:Mem S h0 h (xs++(b,e,l)::ys))(ht:Tch [b] h h')(k:RowH h' b e l'):Mem S h0 h' (xs++(b,e,l')::ys):=by
 have hap:=M.apart;have hle:=ht.1;simp only[List.map_append,List.map_cons] at hap
 have hne:∀x∈xs++ys,x.1≠b:=by
  intro x hx hxb;rw[List.nodup_append] at hap;obtain⟨_,h2,h3⟩:=hap;rw[List.nodup_cons] at h2
  rcases List.mem_append.1 hx with hx|hx
  ·exact h3 x.1 (List.mem_map_of_mem hx) b (by simp) hxb
  ·exact h2.1 (by rw[←hxb];exact List.mem_map_of_mem hx)
 refine⟨fun x hx=>?_,by simpa only[List.map_append,List.map_cons] using hap,M.tch.trans' ht fun i hi=>?_⟩
 ·have hx' : x ∈ xs ++ ys ∨ x = (b, e, l') := by
   rcases List.mem_append.1 hx with hx|hx
   ·exact .inl (List.mem_append_left _ hx)
   ·rcases List.mem_cons.1 hx with hx | hx
    ·exact .inr hx
    ·exact .inl (List.mem_append_right _ hx)
  rcases hx' with hx'|rfl
  ·obtain ⟨h1, h2, h3⟩ := M.row x (by
    rcases List.mem_append.1 hx' with hx|hx
    ·exact List.mem_append_left _ hx
    ·exact List.mem_append_right _ (List.mem_cons_of_mem _ hx))
   exact⟨h1.tch ht h2 (by simpa using hne x hx'),by omega,h3⟩
  ·have := M.at
   exact⟨k,by show b<h'.next;omega,this.2.2⟩
 ·simp only [List.mem_cons, List.not_mem_nil, or_false] at hi
  subst hi;exact M.at.2.2
theorem Mem.keep(M:Mem S h0 h rs)(ht:Tch [] h h'):Mem S h0 h' rs:=by
 have hle:=ht.1;refine⟨fun x hx=>?_,M.apart,M.tch.trans (ht.mono (by simp))⟩;obtain⟨h1,h2,h3⟩:=M.row x hx;exact⟨h1.tch ht h2 (by simp),by omega,h3⟩
theorem Mem.new(M:Mem S h0 h rs)(ht:Tch [] h h')(k:RowH h' b e l)(hb:h.next≤b)(hb2:b<h'.next):Mem S h0 h' ((b,e,l)::rs):=by
 have M':=M.keep ht;have hle:=M.tch.1;refine⟨fun x hx=>?_,?_,M'.tch⟩
 ·rcases List.mem_cons.1 hx with rfl | hx
  ·exact⟨k,hb2,.inr (by show h0.next≤b;omega)⟩
  ·exact M'.row x hx
 ·rw [List.map_cons, List.nodup_cons]
  refine⟨fun hm=>?_,M.apart⟩;obtain⟨x,hx,hxb⟩:=List.mem_map.1 hm;have:=(M.row x hx).2.1;omega
theorem Mem.newH(M:Mem S h0 h rs)(e:TypeId)(l:List AV):Mem S h0 (newH h e l) ((h.next,e,l)::rs):=M.new (Tch.newH _ _ _ _) (RowH.new _ _ _) (Nat.le_refl _) (Nat.lt_succ_self _)
theorem Mem.ex(M:Mem S h0 h rs):h.ex=h0.ex:=M.tch.2.1
theorem y15(M:Mem S h0 h rs)(hk:∀h',Mem S h0 h' ((h.next,e,l)::rs)→Wp (K h') Q):Wp (Abs.lett (Abs.newH h e l) K) Q:=hk _ (M.newH e l)
theorem y1a{K:AV→AHeap→R}(M:Mem S h0 h rs)(h1:l.all AV.one=true)(hk:∀h',Mem S h0 h' ((h.next,e,l)::rs)→Wp (K (.ptr h.next 0) h') Q):Wp (Abs.outK (zba h e (some (.agg l))) K) Q:=
 Wp.outK (z406 h1) (hk _ (M.newH e l))
theorem y2a{K:AV→AHeap→R}{w:z8e}{sz:Nat}(M:Mem S h0 h rs)(eb:w=z6f h e l n sz)(h1:l.all AV.one=true)(hex:z10a e h0.ex=false)(hk:∀h',Mem S h0 h' ((h.next,e,l)::rs)→Wp (K (.sl h.next 0 n sz) h') Q):Wp (Abs.outK w K) Q:=by
 refine Wp.outK (v:=.sl h.next 0 n sz) (h1:=Abs.newH h e l) ?_ (hk _ (M.newH e l));rw[eb];unfold z6f;rw[if_pos ⟨h1,by rw[M.ex];exact hex⟩];rfl
theorem z1ad{a c:Bool}(h1:a=true)(h2:c=true):(a&&c)=true:=by rw[h1,h2];rfl
theorem Mem.at0(M:Mem S h0 h ((b,e,l)::ys)):RowH h b e l∧b<h.next∧(b∈S∨h0.next≤b):=Mem.at (xs:=[]) M
theorem y27{K:AV→R}(M:Mem S h0 h ((b,e,l)::ys))(ho:l[o]? =some v)(hk:Wp (K v) Q):Wp (Abs.obind (z9 h (.ptr b o)) K) Q:=Wp.obind (y3 (Mem.at (xs:=[]) M).1 ho) hk
theorem y1e{K:List AV→R}(M:Mem S h0 h ((b,e,l)::ys))(hn:l.length=n)(hk:Wp (K l) Q):Wp (Abs.obind (z2b h n (.ptr b 0)) K) Q:=Wp.obind (RowH.ldAll (Mem.at (xs:=[]) M).1 hn) hk
theorem y18(M:Mem S h0 h ((b,e,l)::ys))(hn:vs.length=n)(hl:l.length=n)(h1:vs.all AV.one=true)(hk:∀h',Mem S h0 h' ((b,e,vs)::ys)→Wp (K h') Q):Wp (Abs.obind (z27 h n vs (.ptr b 0)) K) Q:=
 Wp.stAll (Mem.at (xs:=[]) M).1 hn hl h1 fun h' k' t' _=>hk h' (Mem.upd (xs:=[]) M t' k')
theorem Wp.ms0(M:Mem S h0 h ((b,e,l)::ys))(ho:o<l.length)(h1:v.one=true)(hk:∀h',Mem S h0 h' ((b,e,l.set o v)::ys)→Wp (K h') Q):Wp (Abs.obind (z27 h 1 [v] (.ptr b o)) K) Q:=
 Wp.st1 (Mem.at (xs:=[]) M).1 ho h1 fun h' k' t' _=>hk h' (Mem.upd (xs:=[]) M t' k')
theorem Mem.at1(M:Mem S h0 h (x0::(b,e,l)::ys)):RowH h b e l∧b<h.next∧(b∈S∨h0.next≤b):=Mem.at (xs:=[x0]) M
theorem y3a{K:AV→R}(M:Mem S h0 h (x0::(b,e,l)::ys))(ho:l[o]? =some v)(hk:Wp (K v) Q):Wp (Abs.obind (z9 h (.ptr b o)) K) Q:=Wp.obind (y3 (Mem.at (xs:=[x0]) M).1 ho) hk
theorem Wp.lr1{K:List AV→R}(M:Mem S h0 h (x0::(b,e,l)::ys))(hn:l.length=n)(hk:Wp (K l) Q):Wp (Abs.obind (z2b h n (.ptr b 0)) K) Q:=Wp.obind (RowH.ldAll (Mem.at (xs:=[x0]) M).1 hn) hk
theorem Wp.sa1(M:Mem S h0 h (x0::(b,e,l)::ys))(hn:vs.length=n)(hl:l.length=n)(h1:vs.all AV.one=true)(hk:∀h',Mem S h0 h' (x0::(b,e,vs)::ys)→Wp (K h') Q):Wp (Abs.obind (z27 h n vs (.ptr b 0)) K) Q:=
 Wp.stAll (Mem.at (xs:=[x0]) M).1 hn hl h1 fun h' k' t' _=>hk h' (Mem.upd (xs:=[x0]) M t' k')
theorem y40{K:AV→R}(M:Mem S h0 h (x0::x1::(b,e,l)::ys))(ho:l[o]? =some v)(hk:Wp (K v) Q):Wp (Abs.obind (z9 h (.ptr b o)) K) Q:=Wp.obind (y3 (Mem.at (xs:=[x0,x1]) M).1 ho) hk
end
end
noncomputable section
open Go.RowKit
def GrowT(e:TypeId)(sz:Nat)(rows:List (List AV))(v:AV)(T:List RowT):Prop:=
 (∀r∈rows,r.length=sz∧r.all AV.one=true)∧((rows=[]∧v=.nsl∧T=[])∨(rows≠[]∧∃c,v=.sl c 0 rows.length sz∧T=[(c,e,rows.flatten)]))
section
variable {P:Program}{S:List Nat}{h0 h h':AHeap}{xs ys rs T:List RowT}{b o n sz B:Nat}{e t u:TypeId}{l l' vs r:List AV}{v x:AV}{rows:List (List AV)}{Q:ARes→AHeap→Prop}
theorem GrowT.one(g:GrowT e sz rows v T):v.one=true∧AV.cells v=[v]:=by
 rcases g.2 with⟨rfl,rfl,_⟩|⟨_,c,rfl,_⟩<;>exact⟨rfl,rfl⟩
theorem Mem.frame(M:Mem S h0 h (xs++rs))(M':Mem (xs.map (·.1)) h h' ys):Mem S h0 h' (ys++rs):=by
 have hap:=M.apart;rw[List.map_append,List.nodup_append] at hap;obtain⟨a1,a2,a3⟩:=hap
 have hxs:∀b∈xs.map (·.1),b∈S∨h0.next≤b:=by
  intro b hb;obtain⟨x,hx,rfl⟩:=List.mem_map.1 hb;exact(M.row x (List.mem_append_left _ hx)).2.2
 have hle:=M.tch.1;have hle':=M'.tch.1;refine⟨fun x hx=>?_,?_,M.tch.trans' M'.tch hxs⟩
 ·rcases List.mem_append.1 hx with hx | hx
  ·obtain ⟨h1, h2, h3⟩ := M'.row x hx
   exact⟨h1,h2,h3.elim (fun h=>hxs _ h) (fun h=>.inr (by omega))⟩
  ·obtain ⟨h1, h2, h3⟩ := M.row x (List.mem_append_right _ hx)
   exact⟨h1.tch M'.tch h2 (fun hm=>a3 x.1 hm x.1 (List.mem_map_of_mem hx) rfl),by omega,h3⟩
 ·rw [List.map_append, List.nodup_append]
  refine⟨M'.apart,a2,fun a ha b hb hab=>?_⟩;subst hab;obtain⟨x,hx,rfl⟩:=List.mem_map.1 ha
  rcases(M'.row x hx).2.2 with h|h
  ·exact a3 _ h _ hb rfl
  ·obtain ⟨y, hy, hyx⟩ := List.mem_map.1 hb
   have:=(M.row y (List.mem_append_right _ hy)).2.1;omega
end
end
end Go.Proofs.Yteecmjmglmpbpaa.Abs
