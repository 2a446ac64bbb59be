package keys_test

import (
	"encoding/binary"
	"fmt"
	"math"
	"math/rand"
	"slices"
	"testing"

	"brougham/api"
	"brougham/keys"
	"brougham/sip"
)

var (
	bytesKey = api.Pair{K0: 0x0706050403020100, K1: 0x0f0e0d0c0b0a0908} // of the bytes 0 to 15
	fullKey  = api.Pair{K0: math.MaxUint64, K1: math.MaxUint64}
)

// oddRoles: both roles, what is next to them, and numbers that are none.
var oddRoles = []api.Role{api.Client, api.Server, 0, 3, -1, -2, 256 + 1, 1<<32 + 1, math.MaxInt, math.MinInt}

// made: what a text makes under a key, asked of layer 3 with the text in one piece.
func made(k api.Pair, text string) api.Pair { return sip.Pair(k, []byte(text)) }

// drawnKeys: keys that no Session made.
func drawnKeys(r *rand.Rand) keys.Keys {
	p := func() api.Pair { return api.Pair{K0: r.Uint64(), K1: r.Uint64()} }
	return keys.Keys{ID: p(), Client: p(), Server: p(), Join: p(), Token: r.Uint32()}
}

// P9.1

// The keys of two numbers, and what answers are summed up under, as OpenSSL makes them.
func TestSessionKnown(t *testing.T) {
	for _, x := range []struct {
		client, server uint64
		want           keys.Keys
		answer         api.Pair
	}{
		{0, 0, keys.Keys{
			ID:     api.Pair{K0: 0x93a03d2cb28038b7, K1: 0x4b10efc8a8d93d01},
			Client: api.Pair{K0: 0x61429a97288094ed, K1: 0x720fd8c44ce767f8},
			Server: api.Pair{K0: 0x1e379115ac2ec5f2, K1: 0xe4d58f9bca1fead4},
			Join:   api.Pair{K0: 0x49da192aad210228, K1: 0x4e6991dbba2507ee},
			Token:  0x424ccbd7,
		}, api.Pair{K0: 0xc0138d47f110b0c1, K1: 0xbc9ad5a59f14df26}},
		{1, 2, keys.Keys{
			ID:     api.Pair{K0: 0xd330cdfc740a598c, K1: 0xf1aa93f9a85a422f},
			Client: api.Pair{K0: 0x1a08c4954a006faa, K1: 0x5e08541a614c6309},
			Server: api.Pair{K0: 0x015940c0beb66e36, K1: 0x5fb2766957f2e7a2},
			Join:   api.Pair{K0: 0xdb5525931d920703, K1: 0x2c6595cf7ce50557},
			Token:  0x33e4de15,
		}, api.Pair{K0: 0x7facaf6c39bab0b4, K1: 0x8af51ae9be4eea5d}},
		{2, 1, keys.Keys{
			ID:     api.Pair{K0: 0x26eececddd735c26, K1: 0xf6e3b9142416a81b},
			Client: api.Pair{K0: 0x4c5582b396b70863, K1: 0xc71cfb3530fe00e2},
			Server: api.Pair{K0: 0x29d845016b2d93f7, K1: 0x6147c3492ac15c5c},
			Join:   api.Pair{K0: 0x72a5119aad3c9eeb, K1: 0xb78250739b9677b0},
			Token:  0x6501d09e,
		}, api.Pair{K0: 0x109a16e7ba2d009e, K1: 0x254675510914d70f}},
		{math.MaxUint64, 0, keys.Keys{
			ID:     api.Pair{K0: 0xa2e75a2c406b1d15, K1: 0x23d1808cab508ece},
			Client: api.Pair{K0: 0x139b0bf4cc0ee8bd, K1: 0xe16d35d96c564b35},
			Server: api.Pair{K0: 0xd349dc94773fc752, K1: 0x0151b3ea3d84dcc3},
			Join:   api.Pair{K0: 0x837ec64f9bc23232, K1: 0xa4ca27b37aaf3bd4},
			Token:  0x854b7476,
		}, api.Pair{K0: 0xdffadf131abac071, K1: 0x556be0fe2f5e6d33}},
		{0, math.MaxUint64, keys.Keys{
			ID:     api.Pair{K0: 0x40dd69496491efb5, K1: 0x0b087cf8c8fc779e},
			Client: api.Pair{K0: 0x4234552c27771847, K1: 0x3d6c02df3bf000a6},
			Server: api.Pair{K0: 0xe1c3c32fd10eb144, K1: 0x1a43b2d65601824e},
			Join:   api.Pair{K0: 0xf7b231e93d489eb6, K1: 0xc470ee5ffa8cbbce},
			Token:  0xe1308583,
		}, api.Pair{K0: 0x3768b16523e27377, K1: 0x46bfb1bcffd0a738}},
		{math.MaxUint64, math.MaxUint64, keys.Keys{
			ID:     api.Pair{K0: 0xb2ce66cc701aaf23, K1: 0x3314144a16d60443},
			Client: api.Pair{K0: 0xe591a32483a19d17, K1: 0xed112965931263c6},
			Server: api.Pair{K0: 0xedf7b7b477b20530, K1: 0xe1a8c1f2f701abcf},
			Join:   api.Pair{K0: 0x8b9adc2b28b60d68, K1: 0xcd5d9231ed5a9c9a},
			Token:  0x70e4ea75,
		}, api.Pair{K0: 0x57be97a03981a0e0, K1: 0x2e09fa555d94ce49}},
		{0x0706050403020100, 0x0f0e0d0c0b0a0908, keys.Keys{
			ID:     api.Pair{K0: 0xeac23dfa3d503aab, K1: 0xe4db863135396891},
			Client: api.Pair{K0: 0x9dab0be942a7eb65, K1: 0xcd3fb0e36c5d4008},
			Server: api.Pair{K0: 0xda8f2b1db3f85661, K1: 0x91cce668dad3ee77},
			Join:   api.Pair{K0: 0x6076263e4bc6b303, K1: 0x90b64b40a9832c33},
			Token:  0x40c308a8,
		}, api.Pair{K0: 0x429b67d7fc0e6e2c, K1: 0x4cc5474311b984bc}},
	} {
		if got := keys.Session(x.client, x.server); got != x.want {
			t.Errorf("Session(%x, %x): %x, not %x", x.client, x.server, got, x.want)
		}
		if got := keys.Handshake(x.client, x.server); got != x.answer {
			t.Errorf("Handshake(%x, %x): %x, not %x", x.client, x.server, got, x.answer)
		}
	}
}

func TestSessionDrawn(t *testing.T) {
	r := rand.New(rand.NewSource(1))
	for range 2000 {
		k := api.Pair{K0: r.Uint64(), K1: r.Uint64()}
		want := keys.Keys{ID: made(k, "id"), Client: made(k, "client"), Server: made(k, "server"), Join: made(k, "join"), Token: uint32(sip.Sum(k, []byte("token")) % (1 << 32))}
		if got := keys.Session(k.K0, k.K1); got != want {
			t.Fatalf("Session(%x, %x): %x, not %x", k.K0, k.K1, got, want)
		}
		if got := keys.Handshake(k.K0, k.K1); got != made(k, "answer") {
			t.Fatalf("Handshake(%x, %x): %x", k.K0, k.K1, got)
		}
	}
}

// No two keys of a connection, and of no two connections whose numbers differ in a bit or stand the other way round, are the same.
func TestSessionApart(t *testing.T) {
	const client, server = 0x0123456789abcdef, 0xfedcba9876543210
	came := map[api.Pair]string{}
	tokens := map[uint32]string{}
	add := func(c, s uint64) {
		k := keys.Session(c, s)
		for i, p := range []api.Pair{k.ID, k.Client, k.Server, k.Join, keys.Handshake(c, s)} {
			name := fmt.Sprintf("%x %x: %d", c, s, i)
			if old, is := came[p]; is {
				t.Errorf("%s is %s", name, old)
			}
			came[p] = name
		}
		if old, is := tokens[k.Token]; is {
			t.Errorf("the token of %x %x is that of %s", c, s, old)
		}
		tokens[k.Token] = fmt.Sprintf("%x %x", c, s)
	}
	add(client, server)
	add(server, client)
	for bit := range 64 {
		add(client^1<<bit, server)
		add(client, server^1<<bit)
	}
}

// P9.2

func TestRoles(t *testing.T) {
	r := rand.New(rand.NewSource(2))
	for i := range 200 {
		k := keys.Session(uint64(i), r.Uint64())
		if i%2 == 0 {
			k = drawnKeys(r)
		}
		old := k
		for _, role := range oddRoles {
			out, in, other := k.Server, k.Client, api.Client
			if role == api.Client {
				out, in, other = k.Client, k.Server, api.Server
			}
			if k.Out(role) != out || k.In(role) != in || keys.Other(role) != other {
				t.Errorf("role %d: %x, %x, %d", role, k.Out(role), k.In(role), keys.Other(role))
			}
		}
		for _, role := range []api.Role{api.Client, api.Server} {
			if k.Out(role) != k.In(keys.Other(role)) || k.In(role) != k.Out(keys.Other(role)) || k.Out(role) == k.In(role) || keys.Other(keys.Other(role)) != role {
				t.Errorf("role %d: %x", role, k)
			}
		}
		if k != old {
			t.Error("keys are turned")
		}
	}
	if (keys.Keys{}).Out(api.Client) != (api.Pair{}) || (keys.Keys{}).In(api.Client) != (api.Pair{}) {
		t.Error("of no keys")
	}
}

// As OpenSSL makes them.
func TestPathKnown(t *testing.T) {
	for _, x := range []struct {
		join           api.Pair
		client, server uint32
		want           api.Pair
	}{
		{api.Pair{}, 0, 0, api.Pair{K0: 0xb20dbe42df95b57e, K1: 0x574a19e7d6f1f71e}},
		{api.Pair{}, 1, 2, api.Pair{K0: 0x966c754b00965406, K1: 0x83a6eccaf6c9c651}},
		{api.Pair{}, 2, 1, api.Pair{K0: 0x2cb4a60ca20c0949, K1: 0xf35e0a98d5f47b2a}},
		{api.Pair{}, 0x01020304, 0x05060708, api.Pair{K0: 0xafe46c7bf46101d0, K1: 0x35322aad2957515b}},
		{api.Pair{}, math.MaxUint32, 0, api.Pair{K0: 0xf27fb75a8d154983, K1: 0xc7925b71d40468fc}},
		{api.Pair{}, 0, math.MaxUint32, api.Pair{K0: 0x2f4abe4aa390c97b, K1: 0xec288cc492ceee38}},
		{api.Pair{}, math.MaxUint32, math.MaxUint32, api.Pair{K0: 0xc49d57f721523ab5, K1: 0x4349435fc38e5808}},
		{bytesKey, 0, 0, api.Pair{K0: 0xc23408e0d09b5e27, K1: 0x52fba7edeea63b72}},
		{bytesKey, 1, 2, api.Pair{K0: 0x50fe9201673fe256, K1: 0x3f986da021c3f961}},
		{bytesKey, 2, 1, api.Pair{K0: 0x206af7fbaa1d868c, K1: 0x96cb5010d7e65219}},
		{bytesKey, 0x01020304, 0x05060708, api.Pair{K0: 0x2357bc7de8e99ca9, K1: 0xd529424dfa18a4ec}},
		{bytesKey, math.MaxUint32, 0, api.Pair{K0: 0xeda6828a131d3cbf, K1: 0x745873c97ec81bfd}},
		{bytesKey, 0, math.MaxUint32, api.Pair{K0: 0xda684bab25df409c, K1: 0x1fa0db2b43d3f067}},
		{bytesKey, math.MaxUint32, math.MaxUint32, api.Pair{K0: 0x6d6305a827b21697, K1: 0x0ff8458c8bca28c9}},
		{fullKey, 0, 0, api.Pair{K0: 0x75e5df3b0174ed65, K1: 0x2a4db9dd21b9b711}},
		{fullKey, 1, 2, api.Pair{K0: 0x2bac9abc0feda872, K1: 0xecf61179b19a899f}},
		{fullKey, 2, 1, api.Pair{K0: 0xe57d36c514b1c8f8, K1: 0x2f312d2e09ae05bc}},
		{fullKey, 0x01020304, 0x05060708, api.Pair{K0: 0x789b99171f64cfe1, K1: 0x20b317ce79e403b3}},
		{fullKey, math.MaxUint32, 0, api.Pair{K0: 0xda3e80bcc88354dd, K1: 0xa45dc61afdd6dea0}},
		{fullKey, 0, math.MaxUint32, api.Pair{K0: 0xdeb97d2a44bead5e, K1: 0x6e83833621d842a3}},
		{fullKey, math.MaxUint32, math.MaxUint32, api.Pair{K0: 0xc8288fd70ad4f0c8, K1: 0x13c179056147f1fd}},
	} {
		if got := keys.Path(keys.Keys{Join: x.join}, x.client, x.server); got != x.want {
			t.Errorf("Path(%x, %x, %x): %x, not %x", x.join, x.client, x.server, got, x.want)
		}
	}
}

// It hangs on Join, and both numbers, alone.
func TestPathDrawn(t *testing.T) {
	r := rand.New(rand.NewSource(3))
	for range 2000 {
		k, c, s := drawnKeys(r), r.Uint32(), r.Uint32()
		want := sip.Pair(k.Join, binary.BigEndian.AppendUint32(binary.BigEndian.AppendUint32(nil, c), s))
		if got := keys.Path(k, c, s); got != want {
			t.Fatalf("Path(%x, %x, %x): %x, not %x", k, c, s, got, want)
		}
		other := drawnKeys(r)
		if keys.Path(other, c, s) == want {
			t.Fatalf("Path(%x, %x, %x)", other, c, s)
		}
		other.Join = k.Join
		if keys.Path(other, c, s) != want {
			t.Fatalf("Path(%x, %x, %x)", other, c, s)
		}
		for bit := range 32 {
			if keys.Path(k, c^1<<bit, s) == want || keys.Path(k, c, s^1<<bit) == want {
				t.Fatalf("Path(%x, %x, %x): bit %d", k, c, s, bit)
			}
		}
	}
}

// As OpenSSL makes them.
func TestFlowKnown(t *testing.T) {
	for _, x := range []struct {
		key  api.Pair
		id   byte
		want api.Pair
	}{
		{api.Pair{}, 0, api.Pair{K0: 0x8ff3f0fcaa13d91c, K1: 0x65434008c0d0bcb8}},
		{api.Pair{}, 1, api.Pair{K0: 0xc1f54496941cff5b, K1: 0x066e55cc42ea6185}},
		{api.Pair{}, 3, api.Pair{K0: 0xbc24ed96dfe5c653, K1: 0x478d5dbf49874ffc}},
		{api.Pair{}, 102, api.Pair{K0: 0x16498e0bc252e439, K1: 0x1ef38054e96c03e2}},
		{api.Pair{}, 255, api.Pair{K0: 0x30402a0793d4c0ec, K1: 0x79f19ff1a64f371e}},
		{api.Pair{K0: 1, K1: 2}, 0, api.Pair{K0: 0x293771c0727494a5, K1: 0xa00c5c766bc7d6de}},
		{api.Pair{K0: 1, K1: 2}, 1, api.Pair{K0: 0xac4af127e8fbd037, K1: 0x512f9bd5a1302d7b}},
		{api.Pair{K0: 1, K1: 2}, 3, api.Pair{K0: 0xd0ba49a111368ebe, K1: 0xbc8725ef0ede043d}},
		{api.Pair{K0: 1, K1: 2}, 102, api.Pair{K0: 0x052a0aabc858a924, K1: 0x0a4eca8eb3d2532b}},
		{api.Pair{K0: 1, K1: 2}, 255, api.Pair{K0: 0x3e91acb48600d9f5, K1: 0x7455bd58f7137672}},
		{bytesKey, 0, api.Pair{K0: 0x6e97cf9ffff32594, K1: 0xddf50d029a88d4e3}},
		{bytesKey, 1, api.Pair{K0: 0xcebe0ae2be43c05e, K1: 0xf4cc72e8f3587726}},
		{bytesKey, 3, api.Pair{K0: 0x6b0f4f956f0738a0, K1: 0x0c4acf8cec8bfb95}},
		{bytesKey, 102, api.Pair{K0: 0x2f87fd1cfb416c5b, K1: 0xf08b36222995c532}},
		{bytesKey, 255, api.Pair{K0: 0xc010501013ca8797, K1: 0xf8661b07fbd89a53}},
		{fullKey, 0, api.Pair{K0: 0x524e7ded3a864454, K1: 0x1e27e94d4950aec1}},
		{fullKey, 1, api.Pair{K0: 0x9607b28ca718198d, K1: 0x2e7c781fb4b0934b}},
		{fullKey, 3, api.Pair{K0: 0x22823d5181013daa, K1: 0x246162501aa1ce24}},
		{fullKey, 102, api.Pair{K0: 0x2ad6236e47d0c0c2, K1: 0x1e755df33160b4f5}},
		{fullKey, 255, api.Pair{K0: 0x8e459654aad74b1d, K1: 0xed0129ad548e1bf3}},
	} {
		if got := keys.Flow(x.key, x.id); got != x.want {
			t.Errorf("Flow(%x, %d): %x, not %x", x.key, x.id, got, x.want)
		}
	}
}

// Each path of each end has a key of its own.
func TestFlowEach(t *testing.T) {
	k := keys.Session(5, 9)
	came := map[api.Pair]bool{}
	for _, p := range []api.Pair{k.Out(api.Client), k.Out(api.Server), {}, fullKey} {
		for id := range 256 {
			got := keys.Flow(p, byte(id))
			if want := sip.Pair(p, []byte{'f', byte(id)}); got != want || came[got] {
				t.Errorf("Flow(%x, %d): %x, not %x", p, id, got, want)
			}
			came[got] = true
		}
	}
}

// P9.3

// As OpenSSL makes them.
func TestDrawnKnown(t *testing.T) {
	for _, x := range []struct {
		seed    api.Pair
		n, want uint64
	}{
		{api.Pair{}, 0, 0xe849e8bb6ffe2567},
		{api.Pair{}, 1, 0x0a77dc4441ee47ba},
		{api.Pair{}, 2, 0xd56d28798aff74b3},
		{api.Pair{}, 255, 0xc12f525adb4249f5},
		{api.Pair{}, 256, 0xd0f0d80d76cd1e06},
		{api.Pair{}, 0x0102030405060708, 0xe923e493d35cbd59},
		{api.Pair{}, math.MaxUint64 - 1, 0xed30d6f3984ef683},
		{api.Pair{}, math.MaxUint64, 0x8050c18b6ac9d15e},
		{api.Pair{K0: 7}, 0, 0x20dd4b78fb033135},
		{api.Pair{K0: 7}, 1, 0x52cd9cf3e0917b29},
		{api.Pair{K0: 7}, 2, 0x007da3f82d684ca4},
		{api.Pair{K0: 7}, 255, 0x4a857b6f8b7b5ba4},
		{api.Pair{K0: 7}, 256, 0x10954a5734f192da},
		{api.Pair{K0: 7}, 0x0102030405060708, 0x86451e1e457a4da2},
		{api.Pair{K0: 7}, math.MaxUint64 - 1, 0x30356a5c2007bcee},
		{api.Pair{K0: 7}, math.MaxUint64, 0xd9b45d41fbe3a7f9},
		{bytesKey, 0, 0x39d3851ca07681a7},
		{bytesKey, 1, 0x3322bdf1c953f80c},
		{bytesKey, 2, 0x7529f3b2ae656a6d},
		{bytesKey, 255, 0x65a1f5e8f309d8c3},
		{bytesKey, 256, 0xd8868bec7a6b3166},
		{bytesKey, 0x0102030405060708, 0x95d2f9f9731548e1},
		{bytesKey, math.MaxUint64 - 1, 0xb39ee35069cb82c8},
		{bytesKey, math.MaxUint64, 0x2a68ff30a3d9da34},
		{fullKey, 0, 0x93e9a1f113e70a00},
		{fullKey, 1, 0x4fd22f7e7632d4a9},
		{fullKey, 2, 0xf119f1933ec9c528},
		{fullKey, 255, 0xdf9b2fc73c996507},
		{fullKey, 256, 0xc8cb8acf3c49f83b},
		{fullKey, 0x0102030405060708, 0x30eca1b48ff7bbe9},
		{fullKey, math.MaxUint64 - 1, 0x640c39db88e76c7b},
		{fullKey, math.MaxUint64, 0xf13e77491777f9d0},
	} {
		if got := keys.Drawn(x.seed, x.n); got != x.want {
			t.Errorf("Drawn(%x, %x): %x, not %x", x.seed, x.n, got, x.want)
		}
		s := keys.Source{Seed: x.seed, N: x.n}
		if got := s.Draw(); got != x.want || s != (keys.Source{Seed: x.seed, N: x.n + 1}) {
			t.Errorf("Draw of %x, %x: %x, not %x, and %v", x.seed, x.n, got, x.want, s)
		}
	}
}

// One after the other, from anywhere, past the greatest one from 0 on again.
func TestDraw(t *testing.T) {
	for _, seed := range []api.Pair{{}, {K0: 1}, {K1: 1}, bytesKey, fullKey} {
		for _, from := range []uint64{0, 5, 1<<32 - 50, math.MaxInt64 - 50, math.MaxUint64 - 50} {
			s := keys.Source{Seed: seed, N: from}
			came := map[uint64]bool{}
			for i := range uint64(100) {
				want := sip.Sum(seed, binary.BigEndian.AppendUint64(nil, from+i))
				if got := s.Draw(); got != want || got != keys.Drawn(seed, from+i) || came[got] {
					t.Fatalf("%x from %d on, %d: %x, not %x", seed, from, i, got, want)
				}
				came[want] = true
				if s.Seed != seed || s.N != from+i+1 {
					t.Fatalf("%x from %d on, %d: %v", seed, from, i, s)
				}
			}
		}
	}
	s := keys.Source{} // nothing of it need be set
	if got := s.Draw(); got != 0xe849e8bb6ffe2567 || s.N != 1 {
		t.Errorf("%x, %v", got, s)
	}
}

// P1, P2

// Each call takes any argument, and answers the same again, whatever was called between.
func TestAny(t *testing.T) {
	odd := []uint64{0, 1, 2, 255, math.MaxUint32, math.MaxUint32 + 1, math.MaxInt64, math.MaxInt64 + 1, math.MaxUint64}
	r := rand.New(rand.NewSource(4))
	for _, a := range odd {
		for _, b := range odd {
			answers := func() []any {
				k := keys.Session(a, b)
				p := api.Pair{K0: a, K1: b}
				s := keys.Source{Seed: p, N: a}
				l := []any{k, keys.Handshake(a, b), keys.Path(k, uint32(a), uint32(b)), keys.Flow(p, byte(a)), keys.Drawn(p, b), s.Draw(), s.Draw()}
				for _, role := range append(oddRoles, api.Role(a), api.Role(b)) {
					l = append(l, k.Out(role), k.In(role), keys.Other(role))
				}
				return l
			}
			first := answers()
			keys.Session(r.Uint64(), r.Uint64())
			(&keys.Source{N: r.Uint64()}).Draw()
			if !slices.Equal(first, answers()) {
				t.Errorf("%x, %x: another answer to the same call", a, b)
			}
		}
	}
}

// Two sources with one seed don't matter to one another.
func TestSourcesApart(t *testing.T) {
	a := keys.Source{Seed: bytesKey}
	first := a.Draw()
	b := a
	second := a.Draw()
	if got := b.Draw(); got != second || b != a || first == second {
		t.Errorf("%x, %x, %x", first, second, got)
	}
}
