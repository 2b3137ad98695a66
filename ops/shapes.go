package ops

import "geode/api"

// more is the shape of an instruction behind whose opcode something stands, 0 of others.
func more(op api.Op) api.Shape {
	for _, s := range [...]struct {
		span
		shape api.Shape
	}{
		{span{0x02, 0x04}, api.ShBlock},
		{span{0x08, 0x08}, api.ShIndex},
		{span{0x0c, 0x0d}, api.ShLabel},
		{span{0x0e, 0x0e}, api.ShTable},
		{span{0x10, 0x10}, api.ShIndex},
		{span{0x11, 0x11}, api.ShTwo},
		{span{0x12, 0x12}, api.ShIndex},
		{span{0x13, 0x13}, api.ShTwo},
		{span{0x14, 0x15}, api.ShIndex},
		{span{0x1c, 0x1c}, api.ShTypes},
		{span{0x1f, 0x1f}, api.ShTry},
		{span{0x20, 0x26}, api.ShIndex},
		{span{0x28, 0x3e}, api.ShMem},
		{span{0x3f, 0x40}, api.ShIndex},
		{span{0x41, 0x41}, api.ShI32},
		{span{0x42, 0x42}, api.ShI64},
		{span{0xd0, 0xd0}, api.ShHeap},
		{span{0xd2, 0xd2}, api.ShIndex},
		{span{0xd5, 0xd6}, api.ShLabel},
		{span{0xfb00, 0xfb01}, api.ShIndex},
		{span{0xfb02, 0xfb05}, api.ShTwo},
		{span{0xfb06, 0xfb07}, api.ShIndex},
		{span{0xfb08, 0xfb0a}, api.ShTwo},
		{span{0xfb0b, 0xfb0e}, api.ShIndex},
		{span{0xfb10, 0xfb10}, api.ShIndex},
		{span{0xfb11, 0xfb13}, api.ShTwo},
		{span{0xfb14, 0xfb17}, api.ShHeap},
		{span{0xfb18, 0xfb19}, api.ShCast},
		{span{0xfc08, 0xfc08}, api.ShTwo},
		{span{0xfc09, 0xfc09}, api.ShIndex},
		{span{0xfc0a, 0xfc0a}, api.ShTwo},
		{span{0xfc0b, 0xfc0b}, api.ShIndex},
		{span{0xfc0c, 0xfc0c}, api.ShTwo},
		{span{0xfc0d, 0xfc0d}, api.ShIndex},
		{span{0xfc0e, 0xfc0e}, api.ShTwo},
		{span{0xfc0f, 0xfc11}, api.ShIndex},
	} {
		if s.has(op) {
			return s.shape
		}
	}
	return 0
}
